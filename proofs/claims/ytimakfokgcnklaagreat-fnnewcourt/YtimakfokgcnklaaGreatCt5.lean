/-
  A new court (spec.NewCourt), where all of it is right: its keys in new memory.
-/
import Derived.Test.YtimakfokgcnklaaGreatCt4
import Derived.Deep.Cut
import Derived.Test.YtimakfokgcnklaaGreatTk
namespace Go.Proofs.YtimakfokgcnklaaGreat.Ct
open Go.ChangeShapes Go.WideShapes Go.ChangeAt Go.RowKit
open Ls (el Row)
open Ow (Has Own ints)
open Rm (Room)
open Rd (Flags)
open Sp (LK retb reti)
open Sl (KO sl lk_yes)
open Dr (Step)
set_option linter.unusedVariables false
set_option linter.unusedSimpArgs false

/-- These values stored from cell i on. -/
def sets (w : World) (X : Nat) : Nat → List Value → World
  | _, [] => w
  | i, v :: vs => sets (w.setCell ⟨X, i, none⟩ v) X (i + 1) vs
theorem sets_heap {X g : Nat} (hg : g ≠ X) (vs : List Value) : ∀ (i : Nat) (w : World), (sets w X i vs).heap[g]? = w.heap[g]? := by
  induction vs with
  | nil => intro i w; rfl
  | cons v vs ih => intro i w; rw [sets, ih]; exact Below.heap_setCell _ _ _ _ (by simp; omega)
theorem sets_below {w0 : World} {X B : Nat} (hB : B ≤ X) (vs : List Value) : ∀ (i : Nat) (w : World), Below B w0 w → Below B w0 (sets w X i vs) := by
  induction vs with
  | nil => intro i w h; exact h
  | cons v vs ih => intro i w h; exact ih _ _ (h.setCell (p := ⟨X, i, none⟩) hB v)
theorem sets_room {X : Nat} (vs : List Value) : ∀ (i : Nat) (w : World) (pre us : List Value), Room w X (pre ++ us) → us.length = vs.length → pre.length = i → Room (sets w X i vs) X (pre ++ vs) := by
  induction vs with
  | nil => intro i w pre us h h1 h2; have : us = [] := List.eq_nil_of_length_eq_zero (by simpa using h1); subst this; exact h
  | cons v vs ih =>
    intro i w pre us h h1 h2
    cases us with
    | nil => simp at h1
    | cons u us =>
      have q := h.set i v
      have e : (pre ++ u :: us).set i v = (pre ++ [v]) ++ us := by
        rw [List.set_append_right _ _ (by omega)]
        simp [h2]
      rw [e] at q
      have r := ih (i + 1) _ (pre ++ [v]) us q (by simpa using h1) (by simp [h2])
      rw [List.append_assoc] at r
      exact r
theorem sets_size (X : Nat) (vs : List Value) : ∀ (i : Nat) (w : World), (sets w X i vs).heap.size = w.heap.size := by
  induction vs with
  | nil => intro i w; rfl
  | cons v vs ih => intro i w; rw [sets, ih]; simp [World.setCell]
/-- A block of this type. -/
def Ty (w : World) (g : Nat) (t : TypeId) : Prop := ∃ cur x, w.heap[g]? = some (.cells cur t x)
theorem own_ne {w : World} {B s n g g' : Nat} {e t : TypeId} {v : Value} {xs : List Value} (h : w.ownsRow B e s v n xs) (hv : v.ownBlock = some g) (ht : Ty w g' t) (hne : e ≠ t) : g ≠ g' := by
  intro q
  subst q
  obtain ⟨cur, x, h2⟩ := ht
  rcases h.2 with ⟨rfl, _⟩ | ⟨g1, cap, cur1, rfl, hB, hg, rest⟩
  · cases hv
  · cases hv
    rw [hg] at h2
    injection h2 with h2
    injection h2 with h3 h4 h5
    exact hne h4
theorem own_ty {w : World} {B s n g : Nat} {e : TypeId} {v : Value} {xs : List Value} (h : w.ownsRow B e s v n xs) (hv : v.ownBlock = some g) : Ty w g e := by
  rcases h.2 with ⟨rfl, _⟩ | ⟨g1, cap, cur1, rfl, hB, hg, rest⟩
  · cases hv
  · cases hv
    exact ⟨_, _, hg⟩
theorem Ty.keep {w w' : World} {g : Nat} {t : TypeId} (h : Ty w g t) (e : w'.heap[g]? = w.heap[g]?) : Ty w' g t := by
  obtain ⟨cur, x, h2⟩ := h
  exact ⟨cur, x, by rw [e]; exact h2⟩
theorem Ty.lt {w : World} {g : Nat} {t : TypeId} (h : Ty w g t) : g < w.heap.size := by
  obtain ⟨cur, x, h2⟩ := h
  exact (Array.getElem?_eq_some_iff.1 h2).1
theorem Ty.new (w : World) (t : TypeId) (cs : Array Value) : Ty (w.alloc (.cells cs t)) w.heap.size t := ⟨cs, _, heap_alloc_new w _⟩

theorem own_sl {w : World} {B s n : Nat} {e : TypeId} {v : Value} {xs : List Value} (h : w.ownsRow B e s v n xs) : ∃ a c, v = .slice a n c := by
  rcases h.2 with ⟨rfl, rfl⟩ | ⟨g, c, _, rfl, _⟩
  · exact ⟨none, 0, rfl⟩
  · exact ⟨_, c, rfl⟩

abbrev z13 : List Value := [.int .i64 0, .int .i64 0, .int .i64 0, .int .i64 0, .int .i64 0, .int .i64 0, .slice none 0 0, .slice none 0 0, .slice none 0 0, .slice none 0 0, .int .i64 0, .slice none 0 0, .slice none 0 0]
/-- The rule's cells, the result's cells. -/
structure Nb (w : World) (N : Nat) (f p a l m : Int) (wr : World) : Prop where
  R : Room wr w.heap.size (r6 N f p a l m)
  Z : Room wr (w.heap.size + 1) z13
  B : Below w.heap.size w wr
  sz : w.heap.size + 2 ≤ wr.heap.size
theorem Nb.keep {w : World} {N : Nat} {f p a l m : Int} {w1 w2 : World} (h : Nb w N f p a l m w1) (b : Below (w.heap.size + 2) w1 w2) : Nb w N f p a l m w2 :=
  ⟨h.R.block (b.block _ (by omega)), h.Z.block (b.block _ (by omega)), h.B.trans (b.mono (by omega)), Nat.le_trans h.sz b.size⟩
theorem Nb.below {w : World} {N : Nat} {f p a l m : Int} {w1 w2 : World} (h : Nb w N f p a l m w1) (b : Below w1.heap.size w1 w2) : Nb w N f p a l m w2 := h.keep (b.mono h.sz)
theorem Nb.grown {w : World} {N : Nat} {f p a l m : Int} {w1 w2 : World} {g : Nat} (h : Nb w N f p a l m w1) (b : w1.grownBy w2 (some g)) (hg : w.heap.size + 2 ≤ g) : Nb w N f p a l m w2 :=
  h.keep ((Below.refl _ _).grown b h.sz (by intro k hk; cases hk; omega))

/-- A court's cells X beside, its keys, who lies. -/
structure Nc (w : World) (N : Nat) (f p a l m : Int) (X gK kK gL kL : Nat) (zs : List Int) (bs : List Bool) (P : Value) (wr : World) : Prop where
  NB : Nb w N f p a l m wr
  C : Room wr X (c13 N f p a l m (.slice (some ⟨gK, 0, none⟩) N kK) (.slice (some ⟨gL, 0, none⟩) N kL) P)
  K : Own wr (w.heap.size + 2) gK N kK zs
  L : OwnB wr (w.heap.size + 2) gL N kL bs
  x : w.heap.size + 2 ≤ X ∧ X ≠ gK ∧ X ≠ gL
theorem Nc.keep {w : World} {N : Nat} {f p a l m : Int} {X gK kK gL kL : Nat} {zs : List Int} {bs : List Bool} {P : Value} {s : Nat} {w1 w2 : World} (h : Nc w N f p a l m X gK kK gL kL zs bs P w1) (b : Below s w1 w2) (hs : w.heap.size + 2 ≤ s ∧ X < s ∧ gK < s ∧ gL < s) : Nc w N f p a l m X gK kK gL kL zs bs P w2 :=
  ⟨h.NB.keep (b.mono hs.1), h.C.block (b.block _ hs.2.1), own_keep h.K fun g hg => by cases hg; exact b.block _ hs.2.2.1, own_keep h.L fun g hg => by cases hg; exact b.block _ hs.2.2.2, h.x⟩
theorem Nc.lt {w : World} {N : Nat} {f p a l m : Int} {X gK kK gL kL : Nat} {zs : List Int} {bs : List Bool} {P : Value} {w1 : World} (h : Nc w N f p a l m X gK kK gL kL zs bs P w1) : w.heap.size + 2 ≤ w1.heap.size ∧ X < w1.heap.size ∧ gK < w1.heap.size ∧ gL < w1.heap.size :=
  ⟨h.NB.sz, h.C.lt (by simp), (own_lt h.K rfl).2, (own_lt h.L rfl).2⟩
theorem Nc.below {w : World} {N : Nat} {f p a l m : Int} {X gK kK gL kL : Nat} {zs : List Int} {bs : List Bool} {P : Value} {w1 w2 : World} (h : Nc w N f p a l m X gK kK gL kL zs bs P w1) (b : Below w1.heap.size w1 w2) : Nc w N f p a l m X gK kK gL kL zs bs P w2 := h.keep b h.lt
theorem Nc.put {w : World} {N : Nat} {f p a l m : Int} {X gK kK gL kL : Nat} {zs : List Int} {bs : List Bool} {P : Value} {w1 : World} (h : Nc w N f p a l m X gK kK gL kL zs bs P w1) (V : Value) : Nc w N f p a l m X gK kK gL kL zs bs V (w1.setCell ⟨X, 8, none⟩ V) :=
  have b : Below (w.heap.size + 2) w1 (w1.setCell ⟨X, 8, none⟩ V) := (Below.refl _ _).setCell (p := ⟨X, 8, none⟩) h.x.1 V
  ⟨h.NB.keep b, h.C.set 8 V, own_keep h.K fun g hg => by cases hg; exact Below.heap_setCell _ _ _ _ (by simp; exact fun e => h.x.2.1 e.symm), own_keep h.L fun g hg => by cases hg; exact Below.heap_setCell _ _ _ _ (by simp; exact fun e => h.x.2.2 e.symm), h.x⟩

/-- What a new court is made of, in memory that is no older than B. -/
structure Mem (w : World) (B N gK kK gL kL : Nat) (aP : Option Addr) (cP : Nat) (zs os : List Int) (bs : List Bool) : Prop where
  K : Own w B gK N kK zs
  L : OwnB w B gL N kL bs
  P : OwnP w B (.slice aP N cP) N os
theorem Mem.keep {w w' : World} {B N gK kK gL kL : Nat} {aP : Option Addr} {cP : Nat} {zs os : List Int} {bs : List Bool} (h : Mem w B N gK kK gL kL aP cP zs os bs) (b : ∀ g, B ≤ g → g < w.heap.size → w'.heap[g]? = w.heap[g]?) : Mem w' B N gK kK gL kL aP cP zs os bs :=
  ⟨own_keep h.K fun g hg => b g (own_lt h.K hg).1 (own_lt h.K hg).2, own_keep h.L fun g hg => b g (own_lt h.L hg).1 (own_lt h.L hg).2, own_keep h.P fun g hg => b g (own_lt h.P hg).1 (own_lt h.P hg).2⟩
theorem Mem.below {w w' : World} {B N gK kK gL kL : Nat} {aP : Option Addr} {cP : Nat} {zs os : List Int} {bs : List Bool} (h : Mem w B N gK kK gL kL aP cP zs os bs) (b : Below w.heap.size w w') : Mem w' B N gK kK gL kL aP cP zs os bs := h.keep fun g _ hg => b.block g hg
theorem Mem.step {w w' : World} {p B N gK kK gL kL : Nat} {aP : Option Addr} {cP : Nat} {zs os : List Int} {bs : List Bool} (h : Mem w B N gK kK gL kL aP cP zs os bs) (s : Step p w w') (hp : p < B) : Mem w' B N gK kK gL kL aP cP zs os bs := h.keep fun g h1 hg => s.block g hg (by omega)
theorem Mem.low {w : World} {B B' N gK kK gL kL : Nat} {aP : Option Addr} {cP : Nat} {zs os : List Int} {bs : List Bool} (h : Mem w B N gK kK gL kL aP cP zs os bs) (hB : B' ≤ B) : Mem w B' N gK kK gL kL aP cP zs os bs := ⟨own_low h.K hB, own_low h.L hB, own_low h.P hB⟩

theorem ret13 {fn : Func} {ts : Array Value} {W : World} {R : Nat} {n f p a l m : Int} {aK aL aP : Option Addr} {N kK kL kP : Nat} {v : Value} (hf : fn.results = #[.cell 8 35, .tmp 9]) (h2 : ts[8]? = some (.pointer (some ⟨R, 0, none⟩))) (h3 : ts[9]? = some v) (h : Room W R (c13 n f p a l m (.slice aK N kK) (.slice aL N kL) (.slice aP N kP))) :
    (results fn ts).run Tryz.prog W = .ok (.tuple #[crt n f p a l m (.slice aK N kK) (.slice aL N kL) (.slice aP N kP), v]) W := by
  have q0 := h.cell 0 rfl
  have q1 := h.cell 1 rfl
  have q2 := h.cell 2 rfl
  have q3 := h.cell 3 rfl
  have q4 := h.cell 4 rfl
  have q5 := h.cell 5 rfl
  have q6 := h.cell 6 rfl
  have q7 := h.cell 7 rfl
  have q8 := h.cell 8 rfl
  have q9 := h.cell 9 rfl
  have q10 := h.cell 10 rfl
  have q11 := h.cell 11 rfl
  have q12 := h.cell 12 rfl
  simp [results, hf, h2, h3, go_sem, q0, q1, q2, q3, q4, q5, q6, q7, q8, q9, q10, q11, q12]

set_option maxRecDepth 100000 in
set_option maxHeartbeats 8000000 in
theorem newCourt (N cK cL cO : Nat) (f p a l m : Int) (aK aL aO : Option Addr) (zs os : List Int) (bs : List Bool) (w : World) (rk : RK N f p a l m) (hK : Row w w.heap.size aK N zs) (hO : Row w w.heap.size aO N os) (hL : Flags w w.heap.size aL N bs) (ko : KO zs N = true) (ct : (CT bs N : Int) ≤ f) (off : ∀ k, k < N → -1000000000000000 ≤ el os k ∧ el os k ≤ 1000000000000000) :
    Calls Tryz.prog 11 #[rul N f p a l m, .slice aK N cK, .slice aO N cO, .slice aL N cL] w fun e w' => (∃ gK kK gL kL aP cP, e = .returned (.tuple #[crt N f p a l m (.slice (some ⟨gK, 0, none⟩) N kK) (.slice (some ⟨gL, 0, none⟩) N kL) (.slice aP N cP), .bool true]) ∧ Mem w' w.heap.size N gK kK gL kL aP cP zs os bs) ∧ Below w.heap.size w w' := by
  obtain ⟨i0, hi0, hz0, hz1, hz2⟩ := info_parts info_bool
  have hN := rk.1
  obtain ⟨hzK, hrK⟩ := hK
  rcases hrK with hrK | ⟨bK, oK, rfl, hbK, hcK⟩
  · omega
  obtain ⟨hzL, hrL⟩ := hL
  rcases hrL with hrL | ⟨bL, oL_, rfl, hbL, hcL⟩
  · omega
  obtain ⟨hzO, hrO⟩ := hO
  rcases hrO with hrO | ⟨bO, oO, rfl, hbO, hcO⟩
  · omega
  have NB : Nb w N f p a l m ((w.alloc (.cells #[.int .i64 N, .int .i64 f, .int .i64 p, .int .i64 a, .int .i64 l, .int .i64 m] 25)).alloc (.cells #[.int .i64 0, .int .i64 0, .int .i64 0, .int .i64 0, .int .i64 0, .int .i64 0, .slice none 0 0, .slice none 0 0, .slice none 0 0, .slice none 0 0, .int .i64 0, .slice none 0 0, .slice none 0 0] 35)) := ⟨(Room.new w [.int .i64 N, .int .i64 f, .int .i64 p, .int .i64 a, .int .i64 l, .int .i64 m] 25).alloc _, Room.at _ [.int .i64 0, .int .i64 0, .int .i64 0, .int .i64 0, .int .i64 0, .int .i64 0, .slice none 0 0, .slice none 0 0, .slice none 0 0, .slice none 0 0, .int .i64 0, .slice none 0 0, .slice none 0 0] 35 _ (by simp), ((Below.refl w.heap.size w).alloc (Nat.le_refl _) _).alloc (by simp) _, by simp⟩
  go_enter Tryz.func11, Tryz.ntmps11
  go_wp2_with fail
  generalize (w.alloc (.cells #[.int .i64 N, .int .i64 f, .int .i64 p, .int .i64 a, .int .i64 l, .int .i64 m] 25)).alloc (.cells #[.int .i64 0, .int .i64 0, .int .i64 0, .int .i64 0, .int .i64 0, .int .i64 0, .slice none 0 0, .slice none 0 0, .slice none 0 0, .slice none 0 0, .int .i64 0, .slice none 0 0, .slice none 0 0] 35) = w1 at NB ⊢
  replace NB := NB.below (Below.refl _ _).drew
  go_cut [10] from 12 (fun p10 wc => ∃ X gK kK gL kL : Nat, p10 = .pointer (some ⟨X, 0, none⟩) ∧ Hid (Nc w N f p a l m X gK kK gL kL zs bs (.slice none 0 0) wc))
  case first =>
    refine wp_region_noPanic ?_
    refine wp_region_held_drew (S := (fun w' => w'.cell? ⟨w.heap.size, 0, none⟩ = some (.int .i64 N) ∧ w'.cell? ⟨w.heap.size, 1, none⟩ = some (.int .i64 f) ∧ w'.cell? ⟨w.heap.size, 2, none⟩ = some (.int .i64 p) ∧ w'.cell? ⟨w.heap.size, 3, none⟩ = some (.int .i64 a) ∧ w'.cell? ⟨w.heap.size, 4, none⟩ = some (.int .i64 l) ∧ w'.cell? ⟨w.heap.size, 5, none⟩ = some (.int .i64 m))) (by kernel_rfl) ⟨NB.R.cell 0 rfl, NB.R.cell 1 rfl, NB.R.cell 2 rfl, NB.R.cell 3 rfl, NB.R.cell 4 rfl, NB.R.cell 5 rfl⟩ (fun hHeld => ?_)
    generalize w1.drew = wd at hHeld NB ⊢
    refine Tk.W 0 (some 12) (.load 25 (.tmp 4)) 25 none ?_
    refine Tk.W 1 (some 13) (.move (.tmp 1)) 26 none ?_
    refine Tk.W 4 (some 16) (.move (.tmp 3)) 27 none ?_
    refine wpAnyH_ready (rs := [2, 3, 7]) (by kernel_rfl) (by simp) ?_
    refine (AllReadyH.cons (o := ⟨some 14, .call ⟨.value (.func 46), #[.tmp 13], #[26]⟩, 26, _, _, none⟩) rfl (fun K hK => ?_) (AllReadyH.cons (o := ⟨some 15, .buildSlice 27 0 #[], 27, _, _, none⟩) rfl (fun K hK => ?_) (AllReadyH.cons (o := ⟨some 10, .alloc 35, 0, _, _, none⟩) rfl (fun K hK => ?_) AllReadyH.nil)))
    · go_simp
      refine (l1Copy bK oK N cK zs _ hzK (fun k hk => by rw [NB.B.cell (p := ⟨bK, oK + k, none⟩) hbK]; exact hcK k hk) (by omega) (by have := NB.B.size; omega)).mono ?_
      rintro e w2 ⟨⟨gK, kK, rfl, oC⟩, b2⟩
      replace oC := own_low oC NB.sz
      replace NB := NB.below b2
      clear b2
      try dsimp only
      refine hK.out _ _ ⟨NB.R.cell 0 rfl, NB.R.cell 1 rfl, NB.R.cell 2 rfl, NB.R.cell 3 rfl, NB.R.cell 4 rfl, NB.R.cell 5 rfl⟩ ?_; clear hK K hHeld; intro hHeld; try simp only [Act.put, List.setIfInBounds_toArray, List.set_cons_zero, List.set_cons_succ]
      refine wpAnyH_ready (rs := [3, 7]) (by kernel_rfl) (by simp) ?_
      refine (AllReadyH.cons (o := ⟨some 15, .buildSlice 27 0 #[], 27, _, _, none⟩) rfl (fun K hK => ?_) (AllReadyH.cons (o := ⟨some 10, .alloc 35, 0, _, _, none⟩) rfl (fun K hK => ?_) AllReadyH.nil))
      · go_simp
        have b3 := (Below.refl w2.heap.size w2).alloc (Nat.le_refl _) (.cells #[] 4)
        have hE : (w2.alloc (.cells #[] 4)).ownsRow (w.heap.size + 2) 4 1 (.slice (some ⟨w2.heap.size, 0, none⟩) 0 0) 0 [] := World.ownsRow_made w2 #[] 0 NB.sz (by unfold maxLen; omega) rfl
        replace NB := NB.below b3
        replace oC := own_below oC b3
        obtain ⟨gE, hgE⟩ : ∃ gE, gE = w2.heap.size := ⟨_, rfl⟩
        rw [← hgE] at hE ⊢
        generalize w2.alloc (.cells #[] 4) = w3 at hE NB oC ⊢
        clear hgE b3
        try dsimp only
        refine hK.out _ _ ⟨NB.R.cell 0 rfl, NB.R.cell 1 rfl, NB.R.cell 2 rfl, NB.R.cell 3 rfl, NB.R.cell 4 rfl, NB.R.cell 5 rfl⟩ ?_; clear hK K hHeld; intro hHeld; try simp only [Act.put, List.setIfInBounds_toArray, List.set_cons_zero, List.set_cons_succ]
        refine wpAnyH_ready (rs := [5, 7]) (by kernel_rfl) (by simp) ?_
        refine (AllReadyH.cons (o := ⟨some 17, .call ⟨.builtin .append, #[.tmp 15, .tmp 16], #[27, 27]⟩, 27, _, _, none⟩) rfl (fun K hK => ?_) (AllReadyH.cons (o := ⟨some 10, .alloc 35, 0, _, _, none⟩) rfl (fun K hK => ?_) AllReadyH.nil))
        · have sz5 := NB.sz
          have lE := own_lt hE rfl
          refine Ow.step_own_at rfl (.tmp 15) (.tmp 16) 27 rfl (w.heap.size + 2) 4 i0 (.bool false) 1 1 Tryz.underlying27 hi0 hz0 hz1 hz2 rfl (by decide) _ 0 [] rfl hE ⟨bL, oL_, none⟩ N cL (bools bs) rfl (by rw [bools_len]; omega) (newsb hzL (fun k hk => by rw [NB.B.cell (p := ⟨bL, oL_ + k, none⟩) hbL]; exact hcL k hk)) (oneb bs) (by unfold maxLen; omega) (by omega) (by omega) ?_
          intro v5 w5 hx5 hg5 hn5 ha5
          have TE := own_ty hE rfl
          rw [Nat.zero_add, List.nil_append] at hx5
          obtain ⟨gL, kL, rfl, oL⟩ := ownb_of hx5 (Dg.no_nil hn5 rfl)
          replace oC := own_keep (w' := w5) oC fun g hg => hg5.block g (own_lt oC hg).2 (by intro e; exact own_ne oC hg TE (by decide) (Option.some.inj e))
          replace NB := NB.grown hg5 lE.1
          clear hx5 hg5 hn5 ha5 hE sz5 lE TE
          try dsimp only
          refine hK.out _ _ ⟨NB.R.cell 0 rfl, NB.R.cell 1 rfl, NB.R.cell 2 rfl, NB.R.cell 3 rfl, NB.R.cell 4 rfl, NB.R.cell 5 rfl⟩ ?_; clear hK K hHeld; intro hHeld; try simp only [Act.put, List.setIfInBounds_toArray, List.set_cons_zero, List.set_cons_succ]
          refine Tk.W 6 (some 18) (.build 35 #[(0, .tmp 12), (1, .tmp 14), (2, .tmp 17)]) 35 none ?_
          refine Tk.R 7 (some 10) (.alloc 35) 0 none (fun K hK => ?_)
          go_simp
          have b7 := (Below.refl w5.heap.size w5).alloc (Nat.le_refl _) (.cells #[.int .i64 0, .int .i64 0, .int .i64 0, .int .i64 0, .int .i64 0, .int .i64 0, .slice none 0 0, .slice none 0 0, .slice none 0 0, .slice none 0 0, .int .i64 0, .slice none 0 0, .slice none 0 0] 35)
          have RC := Room.new w5 [.int .i64 0, .int .i64 0, .int .i64 0, .int .i64 0, .int .i64 0, .int .i64 0, .slice none 0 0, .slice none 0 0, .slice none 0 0, .slice none 0 0, .int .i64 0, .slice none 0 0, .slice none 0 0] 35
          have TC := Ty.new w5 35 #[.int .i64 0, .int .i64 0, .int .i64 0, .int .i64 0, .int .i64 0, .int .i64 0, .slice none 0 0, .slice none 0 0, .slice none 0 0, .slice none 0 0, .int .i64 0, .slice none 0 0, .slice none 0 0]
          have zX : w.heap.size + 2 ≤ w5.heap.size := NB.sz
          replace NB := NB.below b7
          replace oC := own_below oC b7
          replace oL := own_below oL b7
          obtain ⟨X, hX⟩ : ∃ X, X = w5.heap.size := ⟨_, rfl⟩
          rw [← hX] at RC TC zX ⊢
          generalize w5.alloc (.cells #[.int .i64 0, .int .i64 0, .int .i64 0, .int .i64 0, .int .i64 0, .int .i64 0, .slice none 0 0, .slice none 0 0, .slice none 0 0, .slice none 0 0, .int .i64 0, .slice none 0 0, .slice none 0 0] 35) = w7 at NB RC TC oC oL ⊢
          clear hX b7
          try dsimp only
          refine hK.out _ _ ⟨NB.R.cell 0 rfl, NB.R.cell 1 rfl, NB.R.cell 2 rfl, NB.R.cell 3 rfl, NB.R.cell 4 rfl, NB.R.cell 5 rfl⟩ ?_; clear hK K hHeld; intro hHeld; try simp only [Act.put, List.setIfInBounds_toArray, List.set_cons_zero, List.set_cons_succ]
          refine Tk.R 8 none (.store 35 (.tmp 10) (.tmp 18)) 0 none (fun K hK => ?_)
          have e0 := RC.cell 0 rfl
          have e1 := RC.cell 1 rfl
          have e2 := RC.cell 2 rfl
          have e3 := RC.cell 3 rfl
          have e4 := RC.cell 4 rfl
          have e5 := RC.cell 5 rfl
          have e6 := RC.cell 6 rfl
          have e7 := RC.cell 7 rfl
          have e8 := RC.cell 8 rfl
          have e9 := RC.cell 9 rfl
          have e10 := RC.cell 10 rfl
          have e11 := RC.cell 11 rfl
          have e12 := RC.cell 12 rfl
          have f0 := RC.froz 0 rfl
          have f1 := RC.froz 1 rfl
          have f2 := RC.froz 2 rfl
          have f3 := RC.froz 3 rfl
          have f4 := RC.froz 4 rfl
          have f5 := RC.froz 5 rfl
          have f6 := RC.froz 6 rfl
          have f7 := RC.froz 7 rfl
          have f8 := RC.froz 8 rfl
          have f9 := RC.froz 9 rfl
          have f10 := RC.froz 10 rfl
          have f11 := RC.froz 11 rfl
          have f12 := RC.froz 12 rfl
          go_simp
          clear e0 f0 e1 f1 e2 f2 e3 f3 e4 f4 e5 f5 e6 f6 e7 f7 e8 f8 e9 f9 e10 f10 e11 f11 e12 f12
          have x1 : X ≠ gK := fun e => own_ne oC rfl TC (by decide) e.symm
          have x2 : X ≠ gL := fun e => own_ne oL rfl TC (by decide) e.symm
          have NC : Nc w N f p a l m X gK kK gL kL zs bs (.slice none 0 0) (((((((((((((w7.setCell ⟨X, 0, none⟩ (.int .i64 N)).setCell ⟨X, 1, none⟩ (.int .i64 f)).setCell ⟨X, 2, none⟩ (.int .i64 p)).setCell ⟨X, 3, none⟩ (.int .i64 a)).setCell ⟨X, 4, none⟩ (.int .i64 l)).setCell ⟨X, 5, none⟩ (.int .i64 m)).setCell ⟨X, 6, none⟩ (.slice (some ⟨gK, 0, none⟩) N kK)).setCell ⟨X, 7, none⟩ (.slice (some ⟨gL, 0, none⟩) N kL)).setCell ⟨X, 8, none⟩ (.slice none 0 0)).setCell ⟨X, 9, none⟩ (.slice none 0 0)).setCell ⟨X, 10, none⟩ (.int .i64 0)).setCell ⟨X, 11, none⟩ (.slice none 0 0)).setCell ⟨X, 12, none⟩ (.slice none 0 0)) := ⟨NB.keep (sets_below zX [.int .i64 N, .int .i64 f, .int .i64 p, .int .i64 a, .int .i64 l, .int .i64 m, .slice (some ⟨gK, 0, none⟩) N kK, .slice (some ⟨gL, 0, none⟩) N kL, .slice none 0 0, .slice none 0 0, .int .i64 0, .slice none 0 0, .slice none 0 0] 0 w7 (Below.refl _ _)), sets_room [.int .i64 N, .int .i64 f, .int .i64 p, .int .i64 a, .int .i64 l, .int .i64 m, .slice (some ⟨gK, 0, none⟩) N kK, .slice (some ⟨gL, 0, none⟩) N kL, .slice none 0 0, .slice none 0 0, .int .i64 0, .slice none 0 0, .slice none 0 0] 0 w7 [] [.int .i64 0, .int .i64 0, .int .i64 0, .int .i64 0, .int .i64 0, .int .i64 0, .slice none 0 0, .slice none 0 0, .slice none 0 0, .slice none 0 0, .int .i64 0, .slice none 0 0, .slice none 0 0] RC rfl rfl, own_keep oC fun g hg => by cases hg; exact sets_heap (fun e => x1 e.symm) [.int .i64 N, .int .i64 f, .int .i64 p, .int .i64 a, .int .i64 l, .int .i64 m, .slice (some ⟨gK, 0, none⟩) N kK, .slice (some ⟨gL, 0, none⟩) N kL, .slice none 0 0, .slice none 0 0, .int .i64 0, .slice none 0 0, .slice none 0 0] 0 w7, own_keep oL fun g hg => by cases hg; exact sets_heap (fun e => x2 e.symm) [.int .i64 N, .int .i64 f, .int .i64 p, .int .i64 a, .int .i64 l, .int .i64 m, .slice (some ⟨gK, 0, none⟩) N kK, .slice (some ⟨gL, 0, none⟩) N kL, .slice none 0 0, .slice none 0 0, .int .i64 0, .slice none 0 0, .slice none 0 0] 0 w7, zX, x1, x2⟩
          generalize (((((((((((((w7.setCell ⟨X, 0, none⟩ (.int .i64 N)).setCell ⟨X, 1, none⟩ (.int .i64 f)).setCell ⟨X, 2, none⟩ (.int .i64 p)).setCell ⟨X, 3, none⟩ (.int .i64 a)).setCell ⟨X, 4, none⟩ (.int .i64 l)).setCell ⟨X, 5, none⟩ (.int .i64 m)).setCell ⟨X, 6, none⟩ (.slice (some ⟨gK, 0, none⟩) N kK)).setCell ⟨X, 7, none⟩ (.slice (some ⟨gL, 0, none⟩) N kL)).setCell ⟨X, 8, none⟩ (.slice none 0 0)).setCell ⟨X, 9, none⟩ (.slice none 0 0)).setCell ⟨X, 10, none⟩ (.int .i64 0)).setCell ⟨X, 11, none⟩ (.slice none 0 0)).setCell ⟨X, 12, none⟩ (.slice none 0 0)) = w8 at NC ⊢
          replace NB := NC.NB
          try dsimp only
          refine hK.out _ _ ⟨NB.R.cell 0 rfl, NB.R.cell 1 rfl, NB.R.cell 2 rfl, NB.R.cell 3 rfl, NB.R.cell 4 rfl, NB.R.cell 5 rfl⟩ ?_; clear hK K hHeld; intro hHeld; try simp only [Act.put, List.setIfInBounds_toArray, List.set_cons_zero, List.set_cons_succ]
          refine wpAnyH_done (by kernel_rfl) ?_ _
          refine NoPanic.normal ?_
          clear hHeld
          go_wp2_with fail
          go_meet
          case rel => exact ⟨X, gK, kK, gL, kL, rfl, NC⟩
        · go_simp
          have b7 := (Below.refl w3.heap.size w3).alloc (Nat.le_refl _) (.cells #[.int .i64 0, .int .i64 0, .int .i64 0, .int .i64 0, .int .i64 0, .int .i64 0, .slice none 0 0, .slice none 0 0, .slice none 0 0, .slice none 0 0, .int .i64 0, .slice none 0 0, .slice none 0 0] 35)
          have RC := Room.new w3 [.int .i64 0, .int .i64 0, .int .i64 0, .int .i64 0, .int .i64 0, .int .i64 0, .slice none 0 0, .slice none 0 0, .slice none 0 0, .slice none 0 0, .int .i64 0, .slice none 0 0, .slice none 0 0] 35
          have TC := Ty.new w3 35 #[.int .i64 0, .int .i64 0, .int .i64 0, .int .i64 0, .int .i64 0, .int .i64 0, .slice none 0 0, .slice none 0 0, .slice none 0 0, .slice none 0 0, .int .i64 0, .slice none 0 0, .slice none 0 0]
          have zX : w.heap.size + 2 ≤ w3.heap.size := NB.sz
          replace NB := NB.below b7
          replace oC := own_below oC b7
          replace hE := own_below hE b7
          obtain ⟨X, hX⟩ : ∃ X, X = w3.heap.size := ⟨_, rfl⟩
          rw [← hX] at RC TC zX ⊢
          generalize w3.alloc (.cells #[.int .i64 0, .int .i64 0, .int .i64 0, .int .i64 0, .int .i64 0, .int .i64 0, .slice none 0 0, .slice none 0 0, .slice none 0 0, .slice none 0 0, .int .i64 0, .slice none 0 0, .slice none 0 0] 35) = w7 at NB RC TC oC hE ⊢
          clear hX b7
          try dsimp only
          refine hK.out _ _ ⟨NB.R.cell 0 rfl, NB.R.cell 1 rfl, NB.R.cell 2 rfl, NB.R.cell 3 rfl, NB.R.cell 4 rfl, NB.R.cell 5 rfl⟩ ?_; clear hK K hHeld; intro hHeld; try simp only [Act.put, List.setIfInBounds_toArray, List.set_cons_zero, List.set_cons_succ]
          refine Tk.R 5 (some 17) (.call ⟨.builtin .append, #[.tmp 15, .tmp 16], #[27, 27]⟩) 27 none (fun K hK => ?_)
          have sz5 := NB.sz
          have lE := own_lt hE rfl
          refine Ow.step_own_at rfl (.tmp 15) (.tmp 16) 27 rfl (w.heap.size + 2) 4 i0 (.bool false) 1 1 Tryz.underlying27 hi0 hz0 hz1 hz2 rfl (by decide) _ 0 [] rfl hE ⟨bL, oL_, none⟩ N cL (bools bs) rfl (by rw [bools_len]; omega) (newsb hzL (fun k hk => by rw [NB.B.cell (p := ⟨bL, oL_ + k, none⟩) hbL]; exact hcL k hk)) (oneb bs) (by unfold maxLen; omega) (by omega) (by omega) ?_
          intro v5 w5 hx5 hg5 hn5 ha5
          have TE := own_ty hE rfl
          rw [Nat.zero_add, List.nil_append] at hx5
          obtain ⟨gL, kL, rfl, oL⟩ := ownb_of hx5 (Dg.no_nil hn5 rfl)
          replace oC := own_keep (w' := w5) oC fun g hg => hg5.block g (own_lt oC hg).2 (by intro e; exact own_ne oC hg TE (by decide) (Option.some.inj e))
          have nX : X ≠ gE := fun e => own_ne hE rfl TC (by decide) e.symm
          replace TC := TC.keep (hg5.block _ TC.lt (fun e => nX (Option.some.inj e)))
          replace RC := RC.other hg5 nX
          clear nX
          replace NB := NB.grown hg5 lE.1
          clear hx5 hg5 hn5 ha5 hE sz5 lE TE
          try dsimp only
          refine hK.out _ _ ⟨NB.R.cell 0 rfl, NB.R.cell 1 rfl, NB.R.cell 2 rfl, NB.R.cell 3 rfl, NB.R.cell 4 rfl, NB.R.cell 5 rfl⟩ ?_; clear hK K hHeld; intro hHeld; try simp only [Act.put, List.setIfInBounds_toArray, List.set_cons_zero, List.set_cons_succ]
          refine Tk.W 6 (some 18) (.build 35 #[(0, .tmp 12), (1, .tmp 14), (2, .tmp 17)]) 35 none ?_
          refine Tk.R 8 none (.store 35 (.tmp 10) (.tmp 18)) 0 none (fun K hK => ?_)
          have e0 := RC.cell 0 rfl
          have e1 := RC.cell 1 rfl
          have e2 := RC.cell 2 rfl
          have e3 := RC.cell 3 rfl
          have e4 := RC.cell 4 rfl
          have e5 := RC.cell 5 rfl
          have e6 := RC.cell 6 rfl
          have e7 := RC.cell 7 rfl
          have e8 := RC.cell 8 rfl
          have e9 := RC.cell 9 rfl
          have e10 := RC.cell 10 rfl
          have e11 := RC.cell 11 rfl
          have e12 := RC.cell 12 rfl
          have f0 := RC.froz 0 rfl
          have f1 := RC.froz 1 rfl
          have f2 := RC.froz 2 rfl
          have f3 := RC.froz 3 rfl
          have f4 := RC.froz 4 rfl
          have f5 := RC.froz 5 rfl
          have f6 := RC.froz 6 rfl
          have f7 := RC.froz 7 rfl
          have f8 := RC.froz 8 rfl
          have f9 := RC.froz 9 rfl
          have f10 := RC.froz 10 rfl
          have f11 := RC.froz 11 rfl
          have f12 := RC.froz 12 rfl
          go_simp
          clear e0 f0 e1 f1 e2 f2 e3 f3 e4 f4 e5 f5 e6 f6 e7 f7 e8 f8 e9 f9 e10 f10 e11 f11 e12 f12
          have x1 : X ≠ gK := fun e => own_ne oC rfl TC (by decide) e.symm
          have x2 : X ≠ gL := fun e => own_ne oL rfl TC (by decide) e.symm
          have NC : Nc w N f p a l m X gK kK gL kL zs bs (.slice none 0 0) (((((((((((((w5.setCell ⟨X, 0, none⟩ (.int .i64 N)).setCell ⟨X, 1, none⟩ (.int .i64 f)).setCell ⟨X, 2, none⟩ (.int .i64 p)).setCell ⟨X, 3, none⟩ (.int .i64 a)).setCell ⟨X, 4, none⟩ (.int .i64 l)).setCell ⟨X, 5, none⟩ (.int .i64 m)).setCell ⟨X, 6, none⟩ (.slice (some ⟨gK, 0, none⟩) N kK)).setCell ⟨X, 7, none⟩ (.slice (some ⟨gL, 0, none⟩) N kL)).setCell ⟨X, 8, none⟩ (.slice none 0 0)).setCell ⟨X, 9, none⟩ (.slice none 0 0)).setCell ⟨X, 10, none⟩ (.int .i64 0)).setCell ⟨X, 11, none⟩ (.slice none 0 0)).setCell ⟨X, 12, none⟩ (.slice none 0 0)) := ⟨NB.keep (sets_below zX [.int .i64 N, .int .i64 f, .int .i64 p, .int .i64 a, .int .i64 l, .int .i64 m, .slice (some ⟨gK, 0, none⟩) N kK, .slice (some ⟨gL, 0, none⟩) N kL, .slice none 0 0, .slice none 0 0, .int .i64 0, .slice none 0 0, .slice none 0 0] 0 w5 (Below.refl _ _)), sets_room [.int .i64 N, .int .i64 f, .int .i64 p, .int .i64 a, .int .i64 l, .int .i64 m, .slice (some ⟨gK, 0, none⟩) N kK, .slice (some ⟨gL, 0, none⟩) N kL, .slice none 0 0, .slice none 0 0, .int .i64 0, .slice none 0 0, .slice none 0 0] 0 w5 [] [.int .i64 0, .int .i64 0, .int .i64 0, .int .i64 0, .int .i64 0, .int .i64 0, .slice none 0 0, .slice none 0 0, .slice none 0 0, .slice none 0 0, .int .i64 0, .slice none 0 0, .slice none 0 0] RC rfl rfl, own_keep oC fun g hg => by cases hg; exact sets_heap (fun e => x1 e.symm) [.int .i64 N, .int .i64 f, .int .i64 p, .int .i64 a, .int .i64 l, .int .i64 m, .slice (some ⟨gK, 0, none⟩) N kK, .slice (some ⟨gL, 0, none⟩) N kL, .slice none 0 0, .slice none 0 0, .int .i64 0, .slice none 0 0, .slice none 0 0] 0 w5, own_keep oL fun g hg => by cases hg; exact sets_heap (fun e => x2 e.symm) [.int .i64 N, .int .i64 f, .int .i64 p, .int .i64 a, .int .i64 l, .int .i64 m, .slice (some ⟨gK, 0, none⟩) N kK, .slice (some ⟨gL, 0, none⟩) N kL, .slice none 0 0, .slice none 0 0, .int .i64 0, .slice none 0 0, .slice none 0 0] 0 w5, zX, x1, x2⟩
          generalize (((((((((((((w5.setCell ⟨X, 0, none⟩ (.int .i64 N)).setCell ⟨X, 1, none⟩ (.int .i64 f)).setCell ⟨X, 2, none⟩ (.int .i64 p)).setCell ⟨X, 3, none⟩ (.int .i64 a)).setCell ⟨X, 4, none⟩ (.int .i64 l)).setCell ⟨X, 5, none⟩ (.int .i64 m)).setCell ⟨X, 6, none⟩ (.slice (some ⟨gK, 0, none⟩) N kK)).setCell ⟨X, 7, none⟩ (.slice (some ⟨gL, 0, none⟩) N kL)).setCell ⟨X, 8, none⟩ (.slice none 0 0)).setCell ⟨X, 9, none⟩ (.slice none 0 0)).setCell ⟨X, 10, none⟩ (.int .i64 0)).setCell ⟨X, 11, none⟩ (.slice none 0 0)).setCell ⟨X, 12, none⟩ (.slice none 0 0)) = w8 at NC ⊢
          replace NB := NC.NB
          try dsimp only
          refine hK.out _ _ ⟨NB.R.cell 0 rfl, NB.R.cell 1 rfl, NB.R.cell 2 rfl, NB.R.cell 3 rfl, NB.R.cell 4 rfl, NB.R.cell 5 rfl⟩ ?_; clear hK K hHeld; intro hHeld; try simp only [Act.put, List.setIfInBounds_toArray, List.set_cons_zero, List.set_cons_succ]
          refine wpAnyH_done (by kernel_rfl) ?_ _
          refine NoPanic.normal ?_
          clear hHeld
          go_wp2_with fail
          go_meet
          case rel => exact ⟨X, gK, kK, gL, kL, rfl, NC⟩
      · go_simp
        have b7 := (Below.refl w2.heap.size w2).alloc (Nat.le_refl _) (.cells #[.int .i64 0, .int .i64 0, .int .i64 0, .int .i64 0, .int .i64 0, .int .i64 0, .slice none 0 0, .slice none 0 0, .slice none 0 0, .slice none 0 0, .int .i64 0, .slice none 0 0, .slice none 0 0] 35)
        have RC := Room.new w2 [.int .i64 0, .int .i64 0, .int .i64 0, .int .i64 0, .int .i64 0, .int .i64 0, .slice none 0 0, .slice none 0 0, .slice none 0 0, .slice none 0 0, .int .i64 0, .slice none 0 0, .slice none 0 0] 35
        have TC := Ty.new w2 35 #[.int .i64 0, .int .i64 0, .int .i64 0, .int .i64 0, .int .i64 0, .int .i64 0, .slice none 0 0, .slice none 0 0, .slice none 0 0, .slice none 0 0, .int .i64 0, .slice none 0 0, .slice none 0 0]
        have zX : w.heap.size + 2 ≤ w2.heap.size := NB.sz
        replace NB := NB.below b7
        replace oC := own_below oC b7
        obtain ⟨X, hX⟩ : ∃ X, X = w2.heap.size := ⟨_, rfl⟩
        rw [← hX] at RC TC zX ⊢
        generalize w2.alloc (.cells #[.int .i64 0, .int .i64 0, .int .i64 0, .int .i64 0, .int .i64 0, .int .i64 0, .slice none 0 0, .slice none 0 0, .slice none 0 0, .slice none 0 0, .int .i64 0, .slice none 0 0, .slice none 0 0] 35) = w7 at NB RC TC oC ⊢
        clear hX b7
        try dsimp only
        refine hK.out _ _ ⟨NB.R.cell 0 rfl, NB.R.cell 1 rfl, NB.R.cell 2 rfl, NB.R.cell 3 rfl, NB.R.cell 4 rfl, NB.R.cell 5 rfl⟩ ?_; clear hK K hHeld; intro hHeld; try simp only [Act.put, List.setIfInBounds_toArray, List.set_cons_zero, List.set_cons_succ]
        refine Tk.R 3 (some 15) (.buildSlice 27 0 #[]) 27 none (fun K hK => ?_)
        go_simp
        have b3 := (Below.refl w7.heap.size w7).alloc (Nat.le_refl _) (.cells #[] 4)
        have hE : (w7.alloc (.cells #[] 4)).ownsRow (w.heap.size + 2) 4 1 (.slice (some ⟨w7.heap.size, 0, none⟩) 0 0) 0 [] := World.ownsRow_made w7 #[] 0 NB.sz (by unfold maxLen; omega) rfl
        replace NB := NB.below b3
        replace oC := own_below oC b3
        replace RC := RC.below b3
        replace TC := TC.keep (b3.block _ TC.lt)
        obtain ⟨gE, hgE⟩ : ∃ gE, gE = w7.heap.size := ⟨_, rfl⟩
        rw [← hgE] at hE ⊢
        generalize w7.alloc (.cells #[] 4) = w3 at hE NB oC RC TC ⊢
        clear hgE b3
        try dsimp only
        refine hK.out _ _ ⟨NB.R.cell 0 rfl, NB.R.cell 1 rfl, NB.R.cell 2 rfl, NB.R.cell 3 rfl, NB.R.cell 4 rfl, NB.R.cell 5 rfl⟩ ?_; clear hK K hHeld; intro hHeld; try simp only [Act.put, List.setIfInBounds_toArray, List.set_cons_zero, List.set_cons_succ]
        refine Tk.R 5 (some 17) (.call ⟨.builtin .append, #[.tmp 15, .tmp 16], #[27, 27]⟩) 27 none (fun K hK => ?_)
        have sz5 := NB.sz
        have lE := own_lt hE rfl
        refine Ow.step_own_at rfl (.tmp 15) (.tmp 16) 27 rfl (w.heap.size + 2) 4 i0 (.bool false) 1 1 Tryz.underlying27 hi0 hz0 hz1 hz2 rfl (by decide) _ 0 [] rfl hE ⟨bL, oL_, none⟩ N cL (bools bs) rfl (by rw [bools_len]; omega) (newsb hzL (fun k hk => by rw [NB.B.cell (p := ⟨bL, oL_ + k, none⟩) hbL]; exact hcL k hk)) (oneb bs) (by unfold maxLen; omega) (by omega) (by omega) ?_
        intro v5 w5 hx5 hg5 hn5 ha5
        have TE := own_ty hE rfl
        rw [Nat.zero_add, List.nil_append] at hx5
        obtain ⟨gL, kL, rfl, oL⟩ := ownb_of hx5 (Dg.no_nil hn5 rfl)
        replace oC := own_keep (w' := w5) oC fun g hg => hg5.block g (own_lt oC hg).2 (by intro e; exact own_ne oC hg TE (by decide) (Option.some.inj e))
        have nX : X ≠ gE := fun e => own_ne hE rfl TC (by decide) e.symm
        replace TC := TC.keep (hg5.block _ TC.lt (fun e => nX (Option.some.inj e)))
        replace RC := RC.other hg5 nX
        clear nX
        replace NB := NB.grown hg5 lE.1
        clear hx5 hg5 hn5 ha5 hE sz5 lE TE
        try dsimp only
        refine hK.out _ _ ⟨NB.R.cell 0 rfl, NB.R.cell 1 rfl, NB.R.cell 2 rfl, NB.R.cell 3 rfl, NB.R.cell 4 rfl, NB.R.cell 5 rfl⟩ ?_; clear hK K hHeld; intro hHeld; try simp only [Act.put, List.setIfInBounds_toArray, List.set_cons_zero, List.set_cons_succ]
        refine Tk.W 6 (some 18) (.build 35 #[(0, .tmp 12), (1, .tmp 14), (2, .tmp 17)]) 35 none ?_
        refine Tk.R 8 none (.store 35 (.tmp 10) (.tmp 18)) 0 none (fun K hK => ?_)
        have e0 := RC.cell 0 rfl
        have e1 := RC.cell 1 rfl
        have e2 := RC.cell 2 rfl
        have e3 := RC.cell 3 rfl
        have e4 := RC.cell 4 rfl
        have e5 := RC.cell 5 rfl
        have e6 := RC.cell 6 rfl
        have e7 := RC.cell 7 rfl
        have e8 := RC.cell 8 rfl
        have e9 := RC.cell 9 rfl
        have e10 := RC.cell 10 rfl
        have e11 := RC.cell 11 rfl
        have e12 := RC.cell 12 rfl
        have f0 := RC.froz 0 rfl
        have f1 := RC.froz 1 rfl
        have f2 := RC.froz 2 rfl
        have f3 := RC.froz 3 rfl
        have f4 := RC.froz 4 rfl
        have f5 := RC.froz 5 rfl
        have f6 := RC.froz 6 rfl
        have f7 := RC.froz 7 rfl
        have f8 := RC.froz 8 rfl
        have f9 := RC.froz 9 rfl
        have f10 := RC.froz 10 rfl
        have f11 := RC.froz 11 rfl
        have f12 := RC.froz 12 rfl
        go_simp
        clear e0 f0 e1 f1 e2 f2 e3 f3 e4 f4 e5 f5 e6 f6 e7 f7 e8 f8 e9 f9 e10 f10 e11 f11 e12 f12
        have x1 : X ≠ gK := fun e => own_ne oC rfl TC (by decide) e.symm
        have x2 : X ≠ gL := fun e => own_ne oL rfl TC (by decide) e.symm
        have NC : Nc w N f p a l m X gK kK gL kL zs bs (.slice none 0 0) (((((((((((((w5.setCell ⟨X, 0, none⟩ (.int .i64 N)).setCell ⟨X, 1, none⟩ (.int .i64 f)).setCell ⟨X, 2, none⟩ (.int .i64 p)).setCell ⟨X, 3, none⟩ (.int .i64 a)).setCell ⟨X, 4, none⟩ (.int .i64 l)).setCell ⟨X, 5, none⟩ (.int .i64 m)).setCell ⟨X, 6, none⟩ (.slice (some ⟨gK, 0, none⟩) N kK)).setCell ⟨X, 7, none⟩ (.slice (some ⟨gL, 0, none⟩) N kL)).setCell ⟨X, 8, none⟩ (.slice none 0 0)).setCell ⟨X, 9, none⟩ (.slice none 0 0)).setCell ⟨X, 10, none⟩ (.int .i64 0)).setCell ⟨X, 11, none⟩ (.slice none 0 0)).setCell ⟨X, 12, none⟩ (.slice none 0 0)) := ⟨NB.keep (sets_below zX [.int .i64 N, .int .i64 f, .int .i64 p, .int .i64 a, .int .i64 l, .int .i64 m, .slice (some ⟨gK, 0, none⟩) N kK, .slice (some ⟨gL, 0, none⟩) N kL, .slice none 0 0, .slice none 0 0, .int .i64 0, .slice none 0 0, .slice none 0 0] 0 w5 (Below.refl _ _)), sets_room [.int .i64 N, .int .i64 f, .int .i64 p, .int .i64 a, .int .i64 l, .int .i64 m, .slice (some ⟨gK, 0, none⟩) N kK, .slice (some ⟨gL, 0, none⟩) N kL, .slice none 0 0, .slice none 0 0, .int .i64 0, .slice none 0 0, .slice none 0 0] 0 w5 [] [.int .i64 0, .int .i64 0, .int .i64 0, .int .i64 0, .int .i64 0, .int .i64 0, .slice none 0 0, .slice none 0 0, .slice none 0 0, .slice none 0 0, .int .i64 0, .slice none 0 0, .slice none 0 0] RC rfl rfl, own_keep oC fun g hg => by cases hg; exact sets_heap (fun e => x1 e.symm) [.int .i64 N, .int .i64 f, .int .i64 p, .int .i64 a, .int .i64 l, .int .i64 m, .slice (some ⟨gK, 0, none⟩) N kK, .slice (some ⟨gL, 0, none⟩) N kL, .slice none 0 0, .slice none 0 0, .int .i64 0, .slice none 0 0, .slice none 0 0] 0 w5, own_keep oL fun g hg => by cases hg; exact sets_heap (fun e => x2 e.symm) [.int .i64 N, .int .i64 f, .int .i64 p, .int .i64 a, .int .i64 l, .int .i64 m, .slice (some ⟨gK, 0, none⟩) N kK, .slice (some ⟨gL, 0, none⟩) N kL, .slice none 0 0, .slice none 0 0, .int .i64 0, .slice none 0 0, .slice none 0 0] 0 w5, zX, x1, x2⟩
        generalize (((((((((((((w5.setCell ⟨X, 0, none⟩ (.int .i64 N)).setCell ⟨X, 1, none⟩ (.int .i64 f)).setCell ⟨X, 2, none⟩ (.int .i64 p)).setCell ⟨X, 3, none⟩ (.int .i64 a)).setCell ⟨X, 4, none⟩ (.int .i64 l)).setCell ⟨X, 5, none⟩ (.int .i64 m)).setCell ⟨X, 6, none⟩ (.slice (some ⟨gK, 0, none⟩) N kK)).setCell ⟨X, 7, none⟩ (.slice (some ⟨gL, 0, none⟩) N kL)).setCell ⟨X, 8, none⟩ (.slice none 0 0)).setCell ⟨X, 9, none⟩ (.slice none 0 0)).setCell ⟨X, 10, none⟩ (.int .i64 0)).setCell ⟨X, 11, none⟩ (.slice none 0 0)).setCell ⟨X, 12, none⟩ (.slice none 0 0)) = w8 at NC ⊢
        replace NB := NC.NB
        try dsimp only
        refine hK.out _ _ ⟨NB.R.cell 0 rfl, NB.R.cell 1 rfl, NB.R.cell 2 rfl, NB.R.cell 3 rfl, NB.R.cell 4 rfl, NB.R.cell 5 rfl⟩ ?_; clear hK K hHeld; intro hHeld; try simp only [Act.put, List.setIfInBounds_toArray, List.set_cons_zero, List.set_cons_succ]
        refine wpAnyH_done (by kernel_rfl) ?_ _
        refine NoPanic.normal ?_
        clear hHeld
        go_wp2_with fail
        go_meet
        case rel => exact ⟨X, gK, kK, gL, kL, rfl, NC⟩
    · go_simp
      have b3 := (Below.refl wd.heap.size wd).alloc (Nat.le_refl _) (.cells #[] 4)
      have hE : (wd.alloc (.cells #[] 4)).ownsRow (w.heap.size + 2) 4 1 (.slice (some ⟨wd.heap.size, 0, none⟩) 0 0) 0 [] := World.ownsRow_made wd #[] 0 NB.sz (by unfold maxLen; omega) rfl
      replace NB := NB.below b3
      obtain ⟨gE, hgE⟩ : ∃ gE, gE = wd.heap.size := ⟨_, rfl⟩
      rw [← hgE] at hE ⊢
      generalize wd.alloc (.cells #[] 4) = w3 at hE NB  ⊢
      clear hgE b3
      try dsimp only
      refine hK.out _ _ ⟨NB.R.cell 0 rfl, NB.R.cell 1 rfl, NB.R.cell 2 rfl, NB.R.cell 3 rfl, NB.R.cell 4 rfl, NB.R.cell 5 rfl⟩ ?_; clear hK K hHeld; intro hHeld; try simp only [Act.put, List.setIfInBounds_toArray, List.set_cons_zero, List.set_cons_succ]
      refine wpAnyH_ready (rs := [2, 7]) (by kernel_rfl) (by simp) ?_
      refine (AllReadyH.cons (o := ⟨some 14, .call ⟨.value (.func 46), #[.tmp 13], #[26]⟩, 26, _, _, none⟩) rfl (fun K hK => ?_) (AllReadyH.cons (o := ⟨some 10, .alloc 35, 0, _, _, none⟩) rfl (fun K hK => ?_) AllReadyH.nil))
      · go_simp
        refine (l1Copy bK oK N cK zs _ hzK (fun k hk => by rw [NB.B.cell (p := ⟨bK, oK + k, none⟩) hbK]; exact hcK k hk) (by omega) (by have := NB.B.size; omega)).mono ?_
        rintro e w2 ⟨⟨gK, kK, rfl, oC⟩, b2⟩
        replace oC := own_low oC NB.sz
        replace NB := NB.below b2
        replace hE := own_below hE b2
        clear b2
        try dsimp only
        refine hK.out _ _ ⟨NB.R.cell 0 rfl, NB.R.cell 1 rfl, NB.R.cell 2 rfl, NB.R.cell 3 rfl, NB.R.cell 4 rfl, NB.R.cell 5 rfl⟩ ?_; clear hK K hHeld; intro hHeld; try simp only [Act.put, List.setIfInBounds_toArray, List.set_cons_zero, List.set_cons_succ]
        refine wpAnyH_ready (rs := [5, 7]) (by kernel_rfl) (by simp) ?_
        refine (AllReadyH.cons (o := ⟨some 17, .call ⟨.builtin .append, #[.tmp 15, .tmp 16], #[27, 27]⟩, 27, _, _, none⟩) rfl (fun K hK => ?_) (AllReadyH.cons (o := ⟨some 10, .alloc 35, 0, _, _, none⟩) rfl (fun K hK => ?_) AllReadyH.nil))
        · have sz5 := NB.sz
          have lE := own_lt hE rfl
          refine Ow.step_own_at rfl (.tmp 15) (.tmp 16) 27 rfl (w.heap.size + 2) 4 i0 (.bool false) 1 1 Tryz.underlying27 hi0 hz0 hz1 hz2 rfl (by decide) _ 0 [] rfl hE ⟨bL, oL_, none⟩ N cL (bools bs) rfl (by rw [bools_len]; omega) (newsb hzL (fun k hk => by rw [NB.B.cell (p := ⟨bL, oL_ + k, none⟩) hbL]; exact hcL k hk)) (oneb bs) (by unfold maxLen; omega) (by omega) (by omega) ?_
          intro v5 w5 hx5 hg5 hn5 ha5
          have TE := own_ty hE rfl
          rw [Nat.zero_add, List.nil_append] at hx5
          obtain ⟨gL, kL, rfl, oL⟩ := ownb_of hx5 (Dg.no_nil hn5 rfl)
          replace oC := own_keep (w' := w5) oC fun g hg => hg5.block g (own_lt oC hg).2 (by intro e; exact own_ne oC hg TE (by decide) (Option.some.inj e))
          replace NB := NB.grown hg5 lE.1
          clear hx5 hg5 hn5 ha5 hE sz5 lE TE
          try dsimp only
          refine hK.out _ _ ⟨NB.R.cell 0 rfl, NB.R.cell 1 rfl, NB.R.cell 2 rfl, NB.R.cell 3 rfl, NB.R.cell 4 rfl, NB.R.cell 5 rfl⟩ ?_; clear hK K hHeld; intro hHeld; try simp only [Act.put, List.setIfInBounds_toArray, List.set_cons_zero, List.set_cons_succ]
          refine Tk.W 6 (some 18) (.build 35 #[(0, .tmp 12), (1, .tmp 14), (2, .tmp 17)]) 35 none ?_
          refine Tk.R 7 (some 10) (.alloc 35) 0 none (fun K hK => ?_)
          go_simp
          have b7 := (Below.refl w5.heap.size w5).alloc (Nat.le_refl _) (.cells #[.int .i64 0, .int .i64 0, .int .i64 0, .int .i64 0, .int .i64 0, .int .i64 0, .slice none 0 0, .slice none 0 0, .slice none 0 0, .slice none 0 0, .int .i64 0, .slice none 0 0, .slice none 0 0] 35)
          have RC := Room.new w5 [.int .i64 0, .int .i64 0, .int .i64 0, .int .i64 0, .int .i64 0, .int .i64 0, .slice none 0 0, .slice none 0 0, .slice none 0 0, .slice none 0 0, .int .i64 0, .slice none 0 0, .slice none 0 0] 35
          have TC := Ty.new w5 35 #[.int .i64 0, .int .i64 0, .int .i64 0, .int .i64 0, .int .i64 0, .int .i64 0, .slice none 0 0, .slice none 0 0, .slice none 0 0, .slice none 0 0, .int .i64 0, .slice none 0 0, .slice none 0 0]
          have zX : w.heap.size + 2 ≤ w5.heap.size := NB.sz
          replace NB := NB.below b7
          replace oC := own_below oC b7
          replace oL := own_below oL b7
          obtain ⟨X, hX⟩ : ∃ X, X = w5.heap.size := ⟨_, rfl⟩
          rw [← hX] at RC TC zX ⊢
          generalize w5.alloc (.cells #[.int .i64 0, .int .i64 0, .int .i64 0, .int .i64 0, .int .i64 0, .int .i64 0, .slice none 0 0, .slice none 0 0, .slice none 0 0, .slice none 0 0, .int .i64 0, .slice none 0 0, .slice none 0 0] 35) = w7 at NB RC TC oC oL ⊢
          clear hX b7
          try dsimp only
          refine hK.out _ _ ⟨NB.R.cell 0 rfl, NB.R.cell 1 rfl, NB.R.cell 2 rfl, NB.R.cell 3 rfl, NB.R.cell 4 rfl, NB.R.cell 5 rfl⟩ ?_; clear hK K hHeld; intro hHeld; try simp only [Act.put, List.setIfInBounds_toArray, List.set_cons_zero, List.set_cons_succ]
          refine Tk.R 8 none (.store 35 (.tmp 10) (.tmp 18)) 0 none (fun K hK => ?_)
          have e0 := RC.cell 0 rfl
          have e1 := RC.cell 1 rfl
          have e2 := RC.cell 2 rfl
          have e3 := RC.cell 3 rfl
          have e4 := RC.cell 4 rfl
          have e5 := RC.cell 5 rfl
          have e6 := RC.cell 6 rfl
          have e7 := RC.cell 7 rfl
          have e8 := RC.cell 8 rfl
          have e9 := RC.cell 9 rfl
          have e10 := RC.cell 10 rfl
          have e11 := RC.cell 11 rfl
          have e12 := RC.cell 12 rfl
          have f0 := RC.froz 0 rfl
          have f1 := RC.froz 1 rfl
          have f2 := RC.froz 2 rfl
          have f3 := RC.froz 3 rfl
          have f4 := RC.froz 4 rfl
          have f5 := RC.froz 5 rfl
          have f6 := RC.froz 6 rfl
          have f7 := RC.froz 7 rfl
          have f8 := RC.froz 8 rfl
          have f9 := RC.froz 9 rfl
          have f10 := RC.froz 10 rfl
          have f11 := RC.froz 11 rfl
          have f12 := RC.froz 12 rfl
          go_simp
          clear e0 f0 e1 f1 e2 f2 e3 f3 e4 f4 e5 f5 e6 f6 e7 f7 e8 f8 e9 f9 e10 f10 e11 f11 e12 f12
          have x1 : X ≠ gK := fun e => own_ne oC rfl TC (by decide) e.symm
          have x2 : X ≠ gL := fun e => own_ne oL rfl TC (by decide) e.symm
          have NC : Nc w N f p a l m X gK kK gL kL zs bs (.slice none 0 0) (((((((((((((w7.setCell ⟨X, 0, none⟩ (.int .i64 N)).setCell ⟨X, 1, none⟩ (.int .i64 f)).setCell ⟨X, 2, none⟩ (.int .i64 p)).setCell ⟨X, 3, none⟩ (.int .i64 a)).setCell ⟨X, 4, none⟩ (.int .i64 l)).setCell ⟨X, 5, none⟩ (.int .i64 m)).setCell ⟨X, 6, none⟩ (.slice (some ⟨gK, 0, none⟩) N kK)).setCell ⟨X, 7, none⟩ (.slice (some ⟨gL, 0, none⟩) N kL)).setCell ⟨X, 8, none⟩ (.slice none 0 0)).setCell ⟨X, 9, none⟩ (.slice none 0 0)).setCell ⟨X, 10, none⟩ (.int .i64 0)).setCell ⟨X, 11, none⟩ (.slice none 0 0)).setCell ⟨X, 12, none⟩ (.slice none 0 0)) := ⟨NB.keep (sets_below zX [.int .i64 N, .int .i64 f, .int .i64 p, .int .i64 a, .int .i64 l, .int .i64 m, .slice (some ⟨gK, 0, none⟩) N kK, .slice (some ⟨gL, 0, none⟩) N kL, .slice none 0 0, .slice none 0 0, .int .i64 0, .slice none 0 0, .slice none 0 0] 0 w7 (Below.refl _ _)), sets_room [.int .i64 N, .int .i64 f, .int .i64 p, .int .i64 a, .int .i64 l, .int .i64 m, .slice (some ⟨gK, 0, none⟩) N kK, .slice (some ⟨gL, 0, none⟩) N kL, .slice none 0 0, .slice none 0 0, .int .i64 0, .slice none 0 0, .slice none 0 0] 0 w7 [] [.int .i64 0, .int .i64 0, .int .i64 0, .int .i64 0, .int .i64 0, .int .i64 0, .slice none 0 0, .slice none 0 0, .slice none 0 0, .slice none 0 0, .int .i64 0, .slice none 0 0, .slice none 0 0] RC rfl rfl, own_keep oC fun g hg => by cases hg; exact sets_heap (fun e => x1 e.symm) [.int .i64 N, .int .i64 f, .int .i64 p, .int .i64 a, .int .i64 l, .int .i64 m, .slice (some ⟨gK, 0, none⟩) N kK, .slice (some ⟨gL, 0, none⟩) N kL, .slice none 0 0, .slice none 0 0, .int .i64 0, .slice none 0 0, .slice none 0 0] 0 w7, own_keep oL fun g hg => by cases hg; exact sets_heap (fun e => x2 e.symm) [.int .i64 N, .int .i64 f, .int .i64 p, .int .i64 a, .int .i64 l, .int .i64 m, .slice (some ⟨gK, 0, none⟩) N kK, .slice (some ⟨gL, 0, none⟩) N kL, .slice none 0 0, .slice none 0 0, .int .i64 0, .slice none 0 0, .slice none 0 0] 0 w7, zX, x1, x2⟩
          generalize (((((((((((((w7.setCell ⟨X, 0, none⟩ (.int .i64 N)).setCell ⟨X, 1, none⟩ (.int .i64 f)).setCell ⟨X, 2, none⟩ (.int .i64 p)).setCell ⟨X, 3, none⟩ (.int .i64 a)).setCell ⟨X, 4, none⟩ (.int .i64 l)).setCell ⟨X, 5, none⟩ (.int .i64 m)).setCell ⟨X, 6, none⟩ (.slice (some ⟨gK, 0, none⟩) N kK)).setCell ⟨X, 7, none⟩ (.slice (some ⟨gL, 0, none⟩) N kL)).setCell ⟨X, 8, none⟩ (.slice none 0 0)).setCell ⟨X, 9, none⟩ (.slice none 0 0)).setCell ⟨X, 10, none⟩ (.int .i64 0)).setCell ⟨X, 11, none⟩ (.slice none 0 0)).setCell ⟨X, 12, none⟩ (.slice none 0 0)) = w8 at NC ⊢
          replace NB := NC.NB
          try dsimp only
          refine hK.out _ _ ⟨NB.R.cell 0 rfl, NB.R.cell 1 rfl, NB.R.cell 2 rfl, NB.R.cell 3 rfl, NB.R.cell 4 rfl, NB.R.cell 5 rfl⟩ ?_; clear hK K hHeld; intro hHeld; try simp only [Act.put, List.setIfInBounds_toArray, List.set_cons_zero, List.set_cons_succ]
          refine wpAnyH_done (by kernel_rfl) ?_ _
          refine NoPanic.normal ?_
          clear hHeld
          go_wp2_with fail
          go_meet
          case rel => exact ⟨X, gK, kK, gL, kL, rfl, NC⟩
        · go_simp
          have b7 := (Below.refl w2.heap.size w2).alloc (Nat.le_refl _) (.cells #[.int .i64 0, .int .i64 0, .int .i64 0, .int .i64 0, .int .i64 0, .int .i64 0, .slice none 0 0, .slice none 0 0, .slice none 0 0, .slice none 0 0, .int .i64 0, .slice none 0 0, .slice none 0 0] 35)
          have RC := Room.new w2 [.int .i64 0, .int .i64 0, .int .i64 0, .int .i64 0, .int .i64 0, .int .i64 0, .slice none 0 0, .slice none 0 0, .slice none 0 0, .slice none 0 0, .int .i64 0, .slice none 0 0, .slice none 0 0] 35
          have TC := Ty.new w2 35 #[.int .i64 0, .int .i64 0, .int .i64 0, .int .i64 0, .int .i64 0, .int .i64 0, .slice none 0 0, .slice none 0 0, .slice none 0 0, .slice none 0 0, .int .i64 0, .slice none 0 0, .slice none 0 0]
          have zX : w.heap.size + 2 ≤ w2.heap.size := NB.sz
          replace NB := NB.below b7
          replace oC := own_below oC b7
          replace hE := own_below hE b7
          obtain ⟨X, hX⟩ : ∃ X, X = w2.heap.size := ⟨_, rfl⟩
          rw [← hX] at RC TC zX ⊢
          generalize w2.alloc (.cells #[.int .i64 0, .int .i64 0, .int .i64 0, .int .i64 0, .int .i64 0, .int .i64 0, .slice none 0 0, .slice none 0 0, .slice none 0 0, .slice none 0 0, .int .i64 0, .slice none 0 0, .slice none 0 0] 35) = w7 at NB RC TC oC hE ⊢
          clear hX b7
          try dsimp only
          refine hK.out _ _ ⟨NB.R.cell 0 rfl, NB.R.cell 1 rfl, NB.R.cell 2 rfl, NB.R.cell 3 rfl, NB.R.cell 4 rfl, NB.R.cell 5 rfl⟩ ?_; clear hK K hHeld; intro hHeld; try simp only [Act.put, List.setIfInBounds_toArray, List.set_cons_zero, List.set_cons_succ]
          refine Tk.R 5 (some 17) (.call ⟨.builtin .append, #[.tmp 15, .tmp 16], #[27, 27]⟩) 27 none (fun K hK => ?_)
          have sz5 := NB.sz
          have lE := own_lt hE rfl
          refine Ow.step_own_at rfl (.tmp 15) (.tmp 16) 27 rfl (w.heap.size + 2) 4 i0 (.bool false) 1 1 Tryz.underlying27 hi0 hz0 hz1 hz2 rfl (by decide) _ 0 [] rfl hE ⟨bL, oL_, none⟩ N cL (bools bs) rfl (by rw [bools_len]; omega) (newsb hzL (fun k hk => by rw [NB.B.cell (p := ⟨bL, oL_ + k, none⟩) hbL]; exact hcL k hk)) (oneb bs) (by unfold maxLen; omega) (by omega) (by omega) ?_
          intro v5 w5 hx5 hg5 hn5 ha5
          have TE := own_ty hE rfl
          rw [Nat.zero_add, List.nil_append] at hx5
          obtain ⟨gL, kL, rfl, oL⟩ := ownb_of hx5 (Dg.no_nil hn5 rfl)
          replace oC := own_keep (w' := w5) oC fun g hg => hg5.block g (own_lt oC hg).2 (by intro e; exact own_ne oC hg TE (by decide) (Option.some.inj e))
          have nX : X ≠ gE := fun e => own_ne hE rfl TC (by decide) e.symm
          replace TC := TC.keep (hg5.block _ TC.lt (fun e => nX (Option.some.inj e)))
          replace RC := RC.other hg5 nX
          clear nX
          replace NB := NB.grown hg5 lE.1
          clear hx5 hg5 hn5 ha5 hE sz5 lE TE
          try dsimp only
          refine hK.out _ _ ⟨NB.R.cell 0 rfl, NB.R.cell 1 rfl, NB.R.cell 2 rfl, NB.R.cell 3 rfl, NB.R.cell 4 rfl, NB.R.cell 5 rfl⟩ ?_; clear hK K hHeld; intro hHeld; try simp only [Act.put, List.setIfInBounds_toArray, List.set_cons_zero, List.set_cons_succ]
          refine Tk.W 6 (some 18) (.build 35 #[(0, .tmp 12), (1, .tmp 14), (2, .tmp 17)]) 35 none ?_
          refine Tk.R 8 none (.store 35 (.tmp 10) (.tmp 18)) 0 none (fun K hK => ?_)
          have e0 := RC.cell 0 rfl
          have e1 := RC.cell 1 rfl
          have e2 := RC.cell 2 rfl
          have e3 := RC.cell 3 rfl
          have e4 := RC.cell 4 rfl
          have e5 := RC.cell 5 rfl
          have e6 := RC.cell 6 rfl
          have e7 := RC.cell 7 rfl
          have e8 := RC.cell 8 rfl
          have e9 := RC.cell 9 rfl
          have e10 := RC.cell 10 rfl
          have e11 := RC.cell 11 rfl
          have e12 := RC.cell 12 rfl
          have f0 := RC.froz 0 rfl
          have f1 := RC.froz 1 rfl
          have f2 := RC.froz 2 rfl
          have f3 := RC.froz 3 rfl
          have f4 := RC.froz 4 rfl
          have f5 := RC.froz 5 rfl
          have f6 := RC.froz 6 rfl
          have f7 := RC.froz 7 rfl
          have f8 := RC.froz 8 rfl
          have f9 := RC.froz 9 rfl
          have f10 := RC.froz 10 rfl
          have f11 := RC.froz 11 rfl
          have f12 := RC.froz 12 rfl
          go_simp
          clear e0 f0 e1 f1 e2 f2 e3 f3 e4 f4 e5 f5 e6 f6 e7 f7 e8 f8 e9 f9 e10 f10 e11 f11 e12 f12
          have x1 : X ≠ gK := fun e => own_ne oC rfl TC (by decide) e.symm
          have x2 : X ≠ gL := fun e => own_ne oL rfl TC (by decide) e.symm
          have NC : Nc w N f p a l m X gK kK gL kL zs bs (.slice none 0 0) (((((((((((((w5.setCell ⟨X, 0, none⟩ (.int .i64 N)).setCell ⟨X, 1, none⟩ (.int .i64 f)).setCell ⟨X, 2, none⟩ (.int .i64 p)).setCell ⟨X, 3, none⟩ (.int .i64 a)).setCell ⟨X, 4, none⟩ (.int .i64 l)).setCell ⟨X, 5, none⟩ (.int .i64 m)).setCell ⟨X, 6, none⟩ (.slice (some ⟨gK, 0, none⟩) N kK)).setCell ⟨X, 7, none⟩ (.slice (some ⟨gL, 0, none⟩) N kL)).setCell ⟨X, 8, none⟩ (.slice none 0 0)).setCell ⟨X, 9, none⟩ (.slice none 0 0)).setCell ⟨X, 10, none⟩ (.int .i64 0)).setCell ⟨X, 11, none⟩ (.slice none 0 0)).setCell ⟨X, 12, none⟩ (.slice none 0 0)) := ⟨NB.keep (sets_below zX [.int .i64 N, .int .i64 f, .int .i64 p, .int .i64 a, .int .i64 l, .int .i64 m, .slice (some ⟨gK, 0, none⟩) N kK, .slice (some ⟨gL, 0, none⟩) N kL, .slice none 0 0, .slice none 0 0, .int .i64 0, .slice none 0 0, .slice none 0 0] 0 w5 (Below.refl _ _)), sets_room [.int .i64 N, .int .i64 f, .int .i64 p, .int .i64 a, .int .i64 l, .int .i64 m, .slice (some ⟨gK, 0, none⟩) N kK, .slice (some ⟨gL, 0, none⟩) N kL, .slice none 0 0, .slice none 0 0, .int .i64 0, .slice none 0 0, .slice none 0 0] 0 w5 [] [.int .i64 0, .int .i64 0, .int .i64 0, .int .i64 0, .int .i64 0, .int .i64 0, .slice none 0 0, .slice none 0 0, .slice none 0 0, .slice none 0 0, .int .i64 0, .slice none 0 0, .slice none 0 0] RC rfl rfl, own_keep oC fun g hg => by cases hg; exact sets_heap (fun e => x1 e.symm) [.int .i64 N, .int .i64 f, .int .i64 p, .int .i64 a, .int .i64 l, .int .i64 m, .slice (some ⟨gK, 0, none⟩) N kK, .slice (some ⟨gL, 0, none⟩) N kL, .slice none 0 0, .slice none 0 0, .int .i64 0, .slice none 0 0, .slice none 0 0] 0 w5, own_keep oL fun g hg => by cases hg; exact sets_heap (fun e => x2 e.symm) [.int .i64 N, .int .i64 f, .int .i64 p, .int .i64 a, .int .i64 l, .int .i64 m, .slice (some ⟨gK, 0, none⟩) N kK, .slice (some ⟨gL, 0, none⟩) N kL, .slice none 0 0, .slice none 0 0, .int .i64 0, .slice none 0 0, .slice none 0 0] 0 w5, zX, x1, x2⟩
          generalize (((((((((((((w5.setCell ⟨X, 0, none⟩ (.int .i64 N)).setCell ⟨X, 1, none⟩ (.int .i64 f)).setCell ⟨X, 2, none⟩ (.int .i64 p)).setCell ⟨X, 3, none⟩ (.int .i64 a)).setCell ⟨X, 4, none⟩ (.int .i64 l)).setCell ⟨X, 5, none⟩ (.int .i64 m)).setCell ⟨X, 6, none⟩ (.slice (some ⟨gK, 0, none⟩) N kK)).setCell ⟨X, 7, none⟩ (.slice (some ⟨gL, 0, none⟩) N kL)).setCell ⟨X, 8, none⟩ (.slice none 0 0)).setCell ⟨X, 9, none⟩ (.slice none 0 0)).setCell ⟨X, 10, none⟩ (.int .i64 0)).setCell ⟨X, 11, none⟩ (.slice none 0 0)).setCell ⟨X, 12, none⟩ (.slice none 0 0)) = w8 at NC ⊢
          replace NB := NC.NB
          try dsimp only
          refine hK.out _ _ ⟨NB.R.cell 0 rfl, NB.R.cell 1 rfl, NB.R.cell 2 rfl, NB.R.cell 3 rfl, NB.R.cell 4 rfl, NB.R.cell 5 rfl⟩ ?_; clear hK K hHeld; intro hHeld; try simp only [Act.put, List.setIfInBounds_toArray, List.set_cons_zero, List.set_cons_succ]
          refine wpAnyH_done (by kernel_rfl) ?_ _
          refine NoPanic.normal ?_
          clear hHeld
          go_wp2_with fail
          go_meet
          case rel => exact ⟨X, gK, kK, gL, kL, rfl, NC⟩
      · go_simp
        have b7 := (Below.refl w3.heap.size w3).alloc (Nat.le_refl _) (.cells #[.int .i64 0, .int .i64 0, .int .i64 0, .int .i64 0, .int .i64 0, .int .i64 0, .slice none 0 0, .slice none 0 0, .slice none 0 0, .slice none 0 0, .int .i64 0, .slice none 0 0, .slice none 0 0] 35)
        have RC := Room.new w3 [.int .i64 0, .int .i64 0, .int .i64 0, .int .i64 0, .int .i64 0, .int .i64 0, .slice none 0 0, .slice none 0 0, .slice none 0 0, .slice none 0 0, .int .i64 0, .slice none 0 0, .slice none 0 0] 35
        have TC := Ty.new w3 35 #[.int .i64 0, .int .i64 0, .int .i64 0, .int .i64 0, .int .i64 0, .int .i64 0, .slice none 0 0, .slice none 0 0, .slice none 0 0, .slice none 0 0, .int .i64 0, .slice none 0 0, .slice none 0 0]
        have zX : w.heap.size + 2 ≤ w3.heap.size := NB.sz
        replace NB := NB.below b7
        replace hE := own_below hE b7
        obtain ⟨X, hX⟩ : ∃ X, X = w3.heap.size := ⟨_, rfl⟩
        rw [← hX] at RC TC zX ⊢
        generalize w3.alloc (.cells #[.int .i64 0, .int .i64 0, .int .i64 0, .int .i64 0, .int .i64 0, .int .i64 0, .slice none 0 0, .slice none 0 0, .slice none 0 0, .slice none 0 0, .int .i64 0, .slice none 0 0, .slice none 0 0] 35) = w7 at NB RC TC hE ⊢
        clear hX b7
        try dsimp only
        refine hK.out _ _ ⟨NB.R.cell 0 rfl, NB.R.cell 1 rfl, NB.R.cell 2 rfl, NB.R.cell 3 rfl, NB.R.cell 4 rfl, NB.R.cell 5 rfl⟩ ?_; clear hK K hHeld; intro hHeld; try simp only [Act.put, List.setIfInBounds_toArray, List.set_cons_zero, List.set_cons_succ]
        refine Tk.R 2 (some 14) (.call ⟨.value (.func 46), #[.tmp 13], #[26]⟩) 26 none (fun K hK => ?_)
        go_simp
        refine (l1Copy bK oK N cK zs _ hzK (fun k hk => by rw [NB.B.cell (p := ⟨bK, oK + k, none⟩) hbK]; exact hcK k hk) (by omega) (by have := NB.B.size; omega)).mono ?_
        rintro e w2 ⟨⟨gK, kK, rfl, oC⟩, b2⟩
        replace oC := own_low oC NB.sz
        replace NB := NB.below b2
        replace hE := own_below hE b2
        replace RC := RC.below b2
        replace TC := TC.keep (b2.block _ TC.lt)
        clear b2
        try dsimp only
        refine hK.out _ _ ⟨NB.R.cell 0 rfl, NB.R.cell 1 rfl, NB.R.cell 2 rfl, NB.R.cell 3 rfl, NB.R.cell 4 rfl, NB.R.cell 5 rfl⟩ ?_; clear hK K hHeld; intro hHeld; try simp only [Act.put, List.setIfInBounds_toArray, List.set_cons_zero, List.set_cons_succ]
        refine Tk.R 5 (some 17) (.call ⟨.builtin .append, #[.tmp 15, .tmp 16], #[27, 27]⟩) 27 none (fun K hK => ?_)
        have sz5 := NB.sz
        have lE := own_lt hE rfl
        refine Ow.step_own_at rfl (.tmp 15) (.tmp 16) 27 rfl (w.heap.size + 2) 4 i0 (.bool false) 1 1 Tryz.underlying27 hi0 hz0 hz1 hz2 rfl (by decide) _ 0 [] rfl hE ⟨bL, oL_, none⟩ N cL (bools bs) rfl (by rw [bools_len]; omega) (newsb hzL (fun k hk => by rw [NB.B.cell (p := ⟨bL, oL_ + k, none⟩) hbL]; exact hcL k hk)) (oneb bs) (by unfold maxLen; omega) (by omega) (by omega) ?_
        intro v5 w5 hx5 hg5 hn5 ha5
        have TE := own_ty hE rfl
        rw [Nat.zero_add, List.nil_append] at hx5
        obtain ⟨gL, kL, rfl, oL⟩ := ownb_of hx5 (Dg.no_nil hn5 rfl)
        replace oC := own_keep (w' := w5) oC fun g hg => hg5.block g (own_lt oC hg).2 (by intro e; exact own_ne oC hg TE (by decide) (Option.some.inj e))
        have nX : X ≠ gE := fun e => own_ne hE rfl TC (by decide) e.symm
        replace TC := TC.keep (hg5.block _ TC.lt (fun e => nX (Option.some.inj e)))
        replace RC := RC.other hg5 nX
        clear nX
        replace NB := NB.grown hg5 lE.1
        clear hx5 hg5 hn5 ha5 hE sz5 lE TE
        try dsimp only
        refine hK.out _ _ ⟨NB.R.cell 0 rfl, NB.R.cell 1 rfl, NB.R.cell 2 rfl, NB.R.cell 3 rfl, NB.R.cell 4 rfl, NB.R.cell 5 rfl⟩ ?_; clear hK K hHeld; intro hHeld; try simp only [Act.put, List.setIfInBounds_toArray, List.set_cons_zero, List.set_cons_succ]
        refine Tk.W 6 (some 18) (.build 35 #[(0, .tmp 12), (1, .tmp 14), (2, .tmp 17)]) 35 none ?_
        refine Tk.R 8 none (.store 35 (.tmp 10) (.tmp 18)) 0 none (fun K hK => ?_)
        have e0 := RC.cell 0 rfl
        have e1 := RC.cell 1 rfl
        have e2 := RC.cell 2 rfl
        have e3 := RC.cell 3 rfl
        have e4 := RC.cell 4 rfl
        have e5 := RC.cell 5 rfl
        have e6 := RC.cell 6 rfl
        have e7 := RC.cell 7 rfl
        have e8 := RC.cell 8 rfl
        have e9 := RC.cell 9 rfl
        have e10 := RC.cell 10 rfl
        have e11 := RC.cell 11 rfl
        have e12 := RC.cell 12 rfl
        have f0 := RC.froz 0 rfl
        have f1 := RC.froz 1 rfl
        have f2 := RC.froz 2 rfl
        have f3 := RC.froz 3 rfl
        have f4 := RC.froz 4 rfl
        have f5 := RC.froz 5 rfl
        have f6 := RC.froz 6 rfl
        have f7 := RC.froz 7 rfl
        have f8 := RC.froz 8 rfl
        have f9 := RC.froz 9 rfl
        have f10 := RC.froz 10 rfl
        have f11 := RC.froz 11 rfl
        have f12 := RC.froz 12 rfl
        go_simp
        clear e0 f0 e1 f1 e2 f2 e3 f3 e4 f4 e5 f5 e6 f6 e7 f7 e8 f8 e9 f9 e10 f10 e11 f11 e12 f12
        have x1 : X ≠ gK := fun e => own_ne oC rfl TC (by decide) e.symm
        have x2 : X ≠ gL := fun e => own_ne oL rfl TC (by decide) e.symm
        have NC : Nc w N f p a l m X gK kK gL kL zs bs (.slice none 0 0) (((((((((((((w5.setCell ⟨X, 0, none⟩ (.int .i64 N)).setCell ⟨X, 1, none⟩ (.int .i64 f)).setCell ⟨X, 2, none⟩ (.int .i64 p)).setCell ⟨X, 3, none⟩ (.int .i64 a)).setCell ⟨X, 4, none⟩ (.int .i64 l)).setCell ⟨X, 5, none⟩ (.int .i64 m)).setCell ⟨X, 6, none⟩ (.slice (some ⟨gK, 0, none⟩) N kK)).setCell ⟨X, 7, none⟩ (.slice (some ⟨gL, 0, none⟩) N kL)).setCell ⟨X, 8, none⟩ (.slice none 0 0)).setCell ⟨X, 9, none⟩ (.slice none 0 0)).setCell ⟨X, 10, none⟩ (.int .i64 0)).setCell ⟨X, 11, none⟩ (.slice none 0 0)).setCell ⟨X, 12, none⟩ (.slice none 0 0)) := ⟨NB.keep (sets_below zX [.int .i64 N, .int .i64 f, .int .i64 p, .int .i64 a, .int .i64 l, .int .i64 m, .slice (some ⟨gK, 0, none⟩) N kK, .slice (some ⟨gL, 0, none⟩) N kL, .slice none 0 0, .slice none 0 0, .int .i64 0, .slice none 0 0, .slice none 0 0] 0 w5 (Below.refl _ _)), sets_room [.int .i64 N, .int .i64 f, .int .i64 p, .int .i64 a, .int .i64 l, .int .i64 m, .slice (some ⟨gK, 0, none⟩) N kK, .slice (some ⟨gL, 0, none⟩) N kL, .slice none 0 0, .slice none 0 0, .int .i64 0, .slice none 0 0, .slice none 0 0] 0 w5 [] [.int .i64 0, .int .i64 0, .int .i64 0, .int .i64 0, .int .i64 0, .int .i64 0, .slice none 0 0, .slice none 0 0, .slice none 0 0, .slice none 0 0, .int .i64 0, .slice none 0 0, .slice none 0 0] RC rfl rfl, own_keep oC fun g hg => by cases hg; exact sets_heap (fun e => x1 e.symm) [.int .i64 N, .int .i64 f, .int .i64 p, .int .i64 a, .int .i64 l, .int .i64 m, .slice (some ⟨gK, 0, none⟩) N kK, .slice (some ⟨gL, 0, none⟩) N kL, .slice none 0 0, .slice none 0 0, .int .i64 0, .slice none 0 0, .slice none 0 0] 0 w5, own_keep oL fun g hg => by cases hg; exact sets_heap (fun e => x2 e.symm) [.int .i64 N, .int .i64 f, .int .i64 p, .int .i64 a, .int .i64 l, .int .i64 m, .slice (some ⟨gK, 0, none⟩) N kK, .slice (some ⟨gL, 0, none⟩) N kL, .slice none 0 0, .slice none 0 0, .int .i64 0, .slice none 0 0, .slice none 0 0] 0 w5, zX, x1, x2⟩
        generalize (((((((((((((w5.setCell ⟨X, 0, none⟩ (.int .i64 N)).setCell ⟨X, 1, none⟩ (.int .i64 f)).setCell ⟨X, 2, none⟩ (.int .i64 p)).setCell ⟨X, 3, none⟩ (.int .i64 a)).setCell ⟨X, 4, none⟩ (.int .i64 l)).setCell ⟨X, 5, none⟩ (.int .i64 m)).setCell ⟨X, 6, none⟩ (.slice (some ⟨gK, 0, none⟩) N kK)).setCell ⟨X, 7, none⟩ (.slice (some ⟨gL, 0, none⟩) N kL)).setCell ⟨X, 8, none⟩ (.slice none 0 0)).setCell ⟨X, 9, none⟩ (.slice none 0 0)).setCell ⟨X, 10, none⟩ (.int .i64 0)).setCell ⟨X, 11, none⟩ (.slice none 0 0)).setCell ⟨X, 12, none⟩ (.slice none 0 0)) = w8 at NC ⊢
        replace NB := NC.NB
        try dsimp only
        refine hK.out _ _ ⟨NB.R.cell 0 rfl, NB.R.cell 1 rfl, NB.R.cell 2 rfl, NB.R.cell 3 rfl, NB.R.cell 4 rfl, NB.R.cell 5 rfl⟩ ?_; clear hK K hHeld; intro hHeld; try simp only [Act.put, List.setIfInBounds_toArray, List.set_cons_zero, List.set_cons_succ]
        refine wpAnyH_done (by kernel_rfl) ?_ _
        refine NoPanic.normal ?_
        clear hHeld
        go_wp2_with fail
        go_meet
        case rel => exact ⟨X, gK, kK, gL, kL, rfl, NC⟩
    · go_simp
      have b7 := (Below.refl wd.heap.size wd).alloc (Nat.le_refl _) (.cells #[.int .i64 0, .int .i64 0, .int .i64 0, .int .i64 0, .int .i64 0, .int .i64 0, .slice none 0 0, .slice none 0 0, .slice none 0 0, .slice none 0 0, .int .i64 0, .slice none 0 0, .slice none 0 0] 35)
      have RC := Room.new wd [.int .i64 0, .int .i64 0, .int .i64 0, .int .i64 0, .int .i64 0, .int .i64 0, .slice none 0 0, .slice none 0 0, .slice none 0 0, .slice none 0 0, .int .i64 0, .slice none 0 0, .slice none 0 0] 35
      have TC := Ty.new wd 35 #[.int .i64 0, .int .i64 0, .int .i64 0, .int .i64 0, .int .i64 0, .int .i64 0, .slice none 0 0, .slice none 0 0, .slice none 0 0, .slice none 0 0, .int .i64 0, .slice none 0 0, .slice none 0 0]
      have zX : w.heap.size + 2 ≤ wd.heap.size := NB.sz
      replace NB := NB.below b7
      obtain ⟨X, hX⟩ : ∃ X, X = wd.heap.size := ⟨_, rfl⟩
      rw [← hX] at RC TC zX ⊢
      generalize wd.alloc (.cells #[.int .i64 0, .int .i64 0, .int .i64 0, .int .i64 0, .int .i64 0, .int .i64 0, .slice none 0 0, .slice none 0 0, .slice none 0 0, .slice none 0 0, .int .i64 0, .slice none 0 0, .slice none 0 0] 35) = w7 at NB RC TC  ⊢
      clear hX b7
      try dsimp only
      refine hK.out _ _ ⟨NB.R.cell 0 rfl, NB.R.cell 1 rfl, NB.R.cell 2 rfl, NB.R.cell 3 rfl, NB.R.cell 4 rfl, NB.R.cell 5 rfl⟩ ?_; clear hK K hHeld; intro hHeld; try simp only [Act.put, List.setIfInBounds_toArray, List.set_cons_zero, List.set_cons_succ]
      refine wpAnyH_ready (rs := [2, 3]) (by kernel_rfl) (by simp) ?_
      refine (AllReadyH.cons (o := ⟨some 14, .call ⟨.value (.func 46), #[.tmp 13], #[26]⟩, 26, _, _, none⟩) rfl (fun K hK => ?_) (AllReadyH.cons (o := ⟨some 15, .buildSlice 27 0 #[], 27, _, _, none⟩) rfl (fun K hK => ?_) AllReadyH.nil))
      · go_simp
        refine (l1Copy bK oK N cK zs _ hzK (fun k hk => by rw [NB.B.cell (p := ⟨bK, oK + k, none⟩) hbK]; exact hcK k hk) (by omega) (by have := NB.B.size; omega)).mono ?_
        rintro e w2 ⟨⟨gK, kK, rfl, oC⟩, b2⟩
        replace oC := own_low oC NB.sz
        replace NB := NB.below b2
        replace RC := RC.below b2
        replace TC := TC.keep (b2.block _ TC.lt)
        clear b2
        try dsimp only
        refine hK.out _ _ ⟨NB.R.cell 0 rfl, NB.R.cell 1 rfl, NB.R.cell 2 rfl, NB.R.cell 3 rfl, NB.R.cell 4 rfl, NB.R.cell 5 rfl⟩ ?_; clear hK K hHeld; intro hHeld; try simp only [Act.put, List.setIfInBounds_toArray, List.set_cons_zero, List.set_cons_succ]
        refine Tk.R 3 (some 15) (.buildSlice 27 0 #[]) 27 none (fun K hK => ?_)
        go_simp
        have b3 := (Below.refl w2.heap.size w2).alloc (Nat.le_refl _) (.cells #[] 4)
        have hE : (w2.alloc (.cells #[] 4)).ownsRow (w.heap.size + 2) 4 1 (.slice (some ⟨w2.heap.size, 0, none⟩) 0 0) 0 [] := World.ownsRow_made w2 #[] 0 NB.sz (by unfold maxLen; omega) rfl
        replace NB := NB.below b3
        replace oC := own_below oC b3
        replace RC := RC.below b3
        replace TC := TC.keep (b3.block _ TC.lt)
        obtain ⟨gE, hgE⟩ : ∃ gE, gE = w2.heap.size := ⟨_, rfl⟩
        rw [← hgE] at hE ⊢
        generalize w2.alloc (.cells #[] 4) = w3 at hE NB oC RC TC ⊢
        clear hgE b3
        try dsimp only
        refine hK.out _ _ ⟨NB.R.cell 0 rfl, NB.R.cell 1 rfl, NB.R.cell 2 rfl, NB.R.cell 3 rfl, NB.R.cell 4 rfl, NB.R.cell 5 rfl⟩ ?_; clear hK K hHeld; intro hHeld; try simp only [Act.put, List.setIfInBounds_toArray, List.set_cons_zero, List.set_cons_succ]
        refine Tk.R 5 (some 17) (.call ⟨.builtin .append, #[.tmp 15, .tmp 16], #[27, 27]⟩) 27 none (fun K hK => ?_)
        have sz5 := NB.sz
        have lE := own_lt hE rfl
        refine Ow.step_own_at rfl (.tmp 15) (.tmp 16) 27 rfl (w.heap.size + 2) 4 i0 (.bool false) 1 1 Tryz.underlying27 hi0 hz0 hz1 hz2 rfl (by decide) _ 0 [] rfl hE ⟨bL, oL_, none⟩ N cL (bools bs) rfl (by rw [bools_len]; omega) (newsb hzL (fun k hk => by rw [NB.B.cell (p := ⟨bL, oL_ + k, none⟩) hbL]; exact hcL k hk)) (oneb bs) (by unfold maxLen; omega) (by omega) (by omega) ?_
        intro v5 w5 hx5 hg5 hn5 ha5
        have TE := own_ty hE rfl
        rw [Nat.zero_add, List.nil_append] at hx5
        obtain ⟨gL, kL, rfl, oL⟩ := ownb_of hx5 (Dg.no_nil hn5 rfl)
        replace oC := own_keep (w' := w5) oC fun g hg => hg5.block g (own_lt oC hg).2 (by intro e; exact own_ne oC hg TE (by decide) (Option.some.inj e))
        have nX : X ≠ gE := fun e => own_ne hE rfl TC (by decide) e.symm
        replace TC := TC.keep (hg5.block _ TC.lt (fun e => nX (Option.some.inj e)))
        replace RC := RC.other hg5 nX
        clear nX
        replace NB := NB.grown hg5 lE.1
        clear hx5 hg5 hn5 ha5 hE sz5 lE TE
        try dsimp only
        refine hK.out _ _ ⟨NB.R.cell 0 rfl, NB.R.cell 1 rfl, NB.R.cell 2 rfl, NB.R.cell 3 rfl, NB.R.cell 4 rfl, NB.R.cell 5 rfl⟩ ?_; clear hK K hHeld; intro hHeld; try simp only [Act.put, List.setIfInBounds_toArray, List.set_cons_zero, List.set_cons_succ]
        refine Tk.W 6 (some 18) (.build 35 #[(0, .tmp 12), (1, .tmp 14), (2, .tmp 17)]) 35 none ?_
        refine Tk.R 8 none (.store 35 (.tmp 10) (.tmp 18)) 0 none (fun K hK => ?_)
        have e0 := RC.cell 0 rfl
        have e1 := RC.cell 1 rfl
        have e2 := RC.cell 2 rfl
        have e3 := RC.cell 3 rfl
        have e4 := RC.cell 4 rfl
        have e5 := RC.cell 5 rfl
        have e6 := RC.cell 6 rfl
        have e7 := RC.cell 7 rfl
        have e8 := RC.cell 8 rfl
        have e9 := RC.cell 9 rfl
        have e10 := RC.cell 10 rfl
        have e11 := RC.cell 11 rfl
        have e12 := RC.cell 12 rfl
        have f0 := RC.froz 0 rfl
        have f1 := RC.froz 1 rfl
        have f2 := RC.froz 2 rfl
        have f3 := RC.froz 3 rfl
        have f4 := RC.froz 4 rfl
        have f5 := RC.froz 5 rfl
        have f6 := RC.froz 6 rfl
        have f7 := RC.froz 7 rfl
        have f8 := RC.froz 8 rfl
        have f9 := RC.froz 9 rfl
        have f10 := RC.froz 10 rfl
        have f11 := RC.froz 11 rfl
        have f12 := RC.froz 12 rfl
        go_simp
        clear e0 f0 e1 f1 e2 f2 e3 f3 e4 f4 e5 f5 e6 f6 e7 f7 e8 f8 e9 f9 e10 f10 e11 f11 e12 f12
        have x1 : X ≠ gK := fun e => own_ne oC rfl TC (by decide) e.symm
        have x2 : X ≠ gL := fun e => own_ne oL rfl TC (by decide) e.symm
        have NC : Nc w N f p a l m X gK kK gL kL zs bs (.slice none 0 0) (((((((((((((w5.setCell ⟨X, 0, none⟩ (.int .i64 N)).setCell ⟨X, 1, none⟩ (.int .i64 f)).setCell ⟨X, 2, none⟩ (.int .i64 p)).setCell ⟨X, 3, none⟩ (.int .i64 a)).setCell ⟨X, 4, none⟩ (.int .i64 l)).setCell ⟨X, 5, none⟩ (.int .i64 m)).setCell ⟨X, 6, none⟩ (.slice (some ⟨gK, 0, none⟩) N kK)).setCell ⟨X, 7, none⟩ (.slice (some ⟨gL, 0, none⟩) N kL)).setCell ⟨X, 8, none⟩ (.slice none 0 0)).setCell ⟨X, 9, none⟩ (.slice none 0 0)).setCell ⟨X, 10, none⟩ (.int .i64 0)).setCell ⟨X, 11, none⟩ (.slice none 0 0)).setCell ⟨X, 12, none⟩ (.slice none 0 0)) := ⟨NB.keep (sets_below zX [.int .i64 N, .int .i64 f, .int .i64 p, .int .i64 a, .int .i64 l, .int .i64 m, .slice (some ⟨gK, 0, none⟩) N kK, .slice (some ⟨gL, 0, none⟩) N kL, .slice none 0 0, .slice none 0 0, .int .i64 0, .slice none 0 0, .slice none 0 0] 0 w5 (Below.refl _ _)), sets_room [.int .i64 N, .int .i64 f, .int .i64 p, .int .i64 a, .int .i64 l, .int .i64 m, .slice (some ⟨gK, 0, none⟩) N kK, .slice (some ⟨gL, 0, none⟩) N kL, .slice none 0 0, .slice none 0 0, .int .i64 0, .slice none 0 0, .slice none 0 0] 0 w5 [] [.int .i64 0, .int .i64 0, .int .i64 0, .int .i64 0, .int .i64 0, .int .i64 0, .slice none 0 0, .slice none 0 0, .slice none 0 0, .slice none 0 0, .int .i64 0, .slice none 0 0, .slice none 0 0] RC rfl rfl, own_keep oC fun g hg => by cases hg; exact sets_heap (fun e => x1 e.symm) [.int .i64 N, .int .i64 f, .int .i64 p, .int .i64 a, .int .i64 l, .int .i64 m, .slice (some ⟨gK, 0, none⟩) N kK, .slice (some ⟨gL, 0, none⟩) N kL, .slice none 0 0, .slice none 0 0, .int .i64 0, .slice none 0 0, .slice none 0 0] 0 w5, own_keep oL fun g hg => by cases hg; exact sets_heap (fun e => x2 e.symm) [.int .i64 N, .int .i64 f, .int .i64 p, .int .i64 a, .int .i64 l, .int .i64 m, .slice (some ⟨gK, 0, none⟩) N kK, .slice (some ⟨gL, 0, none⟩) N kL, .slice none 0 0, .slice none 0 0, .int .i64 0, .slice none 0 0, .slice none 0 0] 0 w5, zX, x1, x2⟩
        generalize (((((((((((((w5.setCell ⟨X, 0, none⟩ (.int .i64 N)).setCell ⟨X, 1, none⟩ (.int .i64 f)).setCell ⟨X, 2, none⟩ (.int .i64 p)).setCell ⟨X, 3, none⟩ (.int .i64 a)).setCell ⟨X, 4, none⟩ (.int .i64 l)).setCell ⟨X, 5, none⟩ (.int .i64 m)).setCell ⟨X, 6, none⟩ (.slice (some ⟨gK, 0, none⟩) N kK)).setCell ⟨X, 7, none⟩ (.slice (some ⟨gL, 0, none⟩) N kL)).setCell ⟨X, 8, none⟩ (.slice none 0 0)).setCell ⟨X, 9, none⟩ (.slice none 0 0)).setCell ⟨X, 10, none⟩ (.int .i64 0)).setCell ⟨X, 11, none⟩ (.slice none 0 0)).setCell ⟨X, 12, none⟩ (.slice none 0 0)) = w8 at NC ⊢
        replace NB := NC.NB
        try dsimp only
        refine hK.out _ _ ⟨NB.R.cell 0 rfl, NB.R.cell 1 rfl, NB.R.cell 2 rfl, NB.R.cell 3 rfl, NB.R.cell 4 rfl, NB.R.cell 5 rfl⟩ ?_; clear hK K hHeld; intro hHeld; try simp only [Act.put, List.setIfInBounds_toArray, List.set_cons_zero, List.set_cons_succ]
        refine wpAnyH_done (by kernel_rfl) ?_ _
        refine NoPanic.normal ?_
        clear hHeld
        go_wp2_with fail
        go_meet
        case rel => exact ⟨X, gK, kK, gL, kL, rfl, NC⟩
      · go_simp
        have b3 := (Below.refl w7.heap.size w7).alloc (Nat.le_refl _) (.cells #[] 4)
        have hE : (w7.alloc (.cells #[] 4)).ownsRow (w.heap.size + 2) 4 1 (.slice (some ⟨w7.heap.size, 0, none⟩) 0 0) 0 [] := World.ownsRow_made w7 #[] 0 NB.sz (by unfold maxLen; omega) rfl
        replace NB := NB.below b3
        replace RC := RC.below b3
        replace TC := TC.keep (b3.block _ TC.lt)
        obtain ⟨gE, hgE⟩ : ∃ gE, gE = w7.heap.size := ⟨_, rfl⟩
        rw [← hgE] at hE ⊢
        generalize w7.alloc (.cells #[] 4) = w3 at hE NB RC TC ⊢
        clear hgE b3
        try dsimp only
        refine hK.out _ _ ⟨NB.R.cell 0 rfl, NB.R.cell 1 rfl, NB.R.cell 2 rfl, NB.R.cell 3 rfl, NB.R.cell 4 rfl, NB.R.cell 5 rfl⟩ ?_; clear hK K hHeld; intro hHeld; try simp only [Act.put, List.setIfInBounds_toArray, List.set_cons_zero, List.set_cons_succ]
        refine Tk.R 2 (some 14) (.call ⟨.value (.func 46), #[.tmp 13], #[26]⟩) 26 none (fun K hK => ?_)
        go_simp
        refine (l1Copy bK oK N cK zs _ hzK (fun k hk => by rw [NB.B.cell (p := ⟨bK, oK + k, none⟩) hbK]; exact hcK k hk) (by omega) (by have := NB.B.size; omega)).mono ?_
        rintro e w2 ⟨⟨gK, kK, rfl, oC⟩, b2⟩
        replace oC := own_low oC NB.sz
        replace NB := NB.below b2
        replace hE := own_below hE b2
        replace RC := RC.below b2
        replace TC := TC.keep (b2.block _ TC.lt)
        clear b2
        try dsimp only
        refine hK.out _ _ ⟨NB.R.cell 0 rfl, NB.R.cell 1 rfl, NB.R.cell 2 rfl, NB.R.cell 3 rfl, NB.R.cell 4 rfl, NB.R.cell 5 rfl⟩ ?_; clear hK K hHeld; intro hHeld; try simp only [Act.put, List.setIfInBounds_toArray, List.set_cons_zero, List.set_cons_succ]
        refine Tk.R 5 (some 17) (.call ⟨.builtin .append, #[.tmp 15, .tmp 16], #[27, 27]⟩) 27 none (fun K hK => ?_)
        have sz5 := NB.sz
        have lE := own_lt hE rfl
        refine Ow.step_own_at rfl (.tmp 15) (.tmp 16) 27 rfl (w.heap.size + 2) 4 i0 (.bool false) 1 1 Tryz.underlying27 hi0 hz0 hz1 hz2 rfl (by decide) _ 0 [] rfl hE ⟨bL, oL_, none⟩ N cL (bools bs) rfl (by rw [bools_len]; omega) (newsb hzL (fun k hk => by rw [NB.B.cell (p := ⟨bL, oL_ + k, none⟩) hbL]; exact hcL k hk)) (oneb bs) (by unfold maxLen; omega) (by omega) (by omega) ?_
        intro v5 w5 hx5 hg5 hn5 ha5
        have TE := own_ty hE rfl
        rw [Nat.zero_add, List.nil_append] at hx5
        obtain ⟨gL, kL, rfl, oL⟩ := ownb_of hx5 (Dg.no_nil hn5 rfl)
        replace oC := own_keep (w' := w5) oC fun g hg => hg5.block g (own_lt oC hg).2 (by intro e; exact own_ne oC hg TE (by decide) (Option.some.inj e))
        have nX : X ≠ gE := fun e => own_ne hE rfl TC (by decide) e.symm
        replace TC := TC.keep (hg5.block _ TC.lt (fun e => nX (Option.some.inj e)))
        replace RC := RC.other hg5 nX
        clear nX
        replace NB := NB.grown hg5 lE.1
        clear hx5 hg5 hn5 ha5 hE sz5 lE TE
        try dsimp only
        refine hK.out _ _ ⟨NB.R.cell 0 rfl, NB.R.cell 1 rfl, NB.R.cell 2 rfl, NB.R.cell 3 rfl, NB.R.cell 4 rfl, NB.R.cell 5 rfl⟩ ?_; clear hK K hHeld; intro hHeld; try simp only [Act.put, List.setIfInBounds_toArray, List.set_cons_zero, List.set_cons_succ]
        refine Tk.W 6 (some 18) (.build 35 #[(0, .tmp 12), (1, .tmp 14), (2, .tmp 17)]) 35 none ?_
        refine Tk.R 8 none (.store 35 (.tmp 10) (.tmp 18)) 0 none (fun K hK => ?_)
        have e0 := RC.cell 0 rfl
        have e1 := RC.cell 1 rfl
        have e2 := RC.cell 2 rfl
        have e3 := RC.cell 3 rfl
        have e4 := RC.cell 4 rfl
        have e5 := RC.cell 5 rfl
        have e6 := RC.cell 6 rfl
        have e7 := RC.cell 7 rfl
        have e8 := RC.cell 8 rfl
        have e9 := RC.cell 9 rfl
        have e10 := RC.cell 10 rfl
        have e11 := RC.cell 11 rfl
        have e12 := RC.cell 12 rfl
        have f0 := RC.froz 0 rfl
        have f1 := RC.froz 1 rfl
        have f2 := RC.froz 2 rfl
        have f3 := RC.froz 3 rfl
        have f4 := RC.froz 4 rfl
        have f5 := RC.froz 5 rfl
        have f6 := RC.froz 6 rfl
        have f7 := RC.froz 7 rfl
        have f8 := RC.froz 8 rfl
        have f9 := RC.froz 9 rfl
        have f10 := RC.froz 10 rfl
        have f11 := RC.froz 11 rfl
        have f12 := RC.froz 12 rfl
        go_simp
        clear e0 f0 e1 f1 e2 f2 e3 f3 e4 f4 e5 f5 e6 f6 e7 f7 e8 f8 e9 f9 e10 f10 e11 f11 e12 f12
        have x1 : X ≠ gK := fun e => own_ne oC rfl TC (by decide) e.symm
        have x2 : X ≠ gL := fun e => own_ne oL rfl TC (by decide) e.symm
        have NC : Nc w N f p a l m X gK kK gL kL zs bs (.slice none 0 0) (((((((((((((w5.setCell ⟨X, 0, none⟩ (.int .i64 N)).setCell ⟨X, 1, none⟩ (.int .i64 f)).setCell ⟨X, 2, none⟩ (.int .i64 p)).setCell ⟨X, 3, none⟩ (.int .i64 a)).setCell ⟨X, 4, none⟩ (.int .i64 l)).setCell ⟨X, 5, none⟩ (.int .i64 m)).setCell ⟨X, 6, none⟩ (.slice (some ⟨gK, 0, none⟩) N kK)).setCell ⟨X, 7, none⟩ (.slice (some ⟨gL, 0, none⟩) N kL)).setCell ⟨X, 8, none⟩ (.slice none 0 0)).setCell ⟨X, 9, none⟩ (.slice none 0 0)).setCell ⟨X, 10, none⟩ (.int .i64 0)).setCell ⟨X, 11, none⟩ (.slice none 0 0)).setCell ⟨X, 12, none⟩ (.slice none 0 0)) := ⟨NB.keep (sets_below zX [.int .i64 N, .int .i64 f, .int .i64 p, .int .i64 a, .int .i64 l, .int .i64 m, .slice (some ⟨gK, 0, none⟩) N kK, .slice (some ⟨gL, 0, none⟩) N kL, .slice none 0 0, .slice none 0 0, .int .i64 0, .slice none 0 0, .slice none 0 0] 0 w5 (Below.refl _ _)), sets_room [.int .i64 N, .int .i64 f, .int .i64 p, .int .i64 a, .int .i64 l, .int .i64 m, .slice (some ⟨gK, 0, none⟩) N kK, .slice (some ⟨gL, 0, none⟩) N kL, .slice none 0 0, .slice none 0 0, .int .i64 0, .slice none 0 0, .slice none 0 0] 0 w5 [] [.int .i64 0, .int .i64 0, .int .i64 0, .int .i64 0, .int .i64 0, .int .i64 0, .slice none 0 0, .slice none 0 0, .slice none 0 0, .slice none 0 0, .int .i64 0, .slice none 0 0, .slice none 0 0] RC rfl rfl, own_keep oC fun g hg => by cases hg; exact sets_heap (fun e => x1 e.symm) [.int .i64 N, .int .i64 f, .int .i64 p, .int .i64 a, .int .i64 l, .int .i64 m, .slice (some ⟨gK, 0, none⟩) N kK, .slice (some ⟨gL, 0, none⟩) N kL, .slice none 0 0, .slice none 0 0, .int .i64 0, .slice none 0 0, .slice none 0 0] 0 w5, own_keep oL fun g hg => by cases hg; exact sets_heap (fun e => x2 e.symm) [.int .i64 N, .int .i64 f, .int .i64 p, .int .i64 a, .int .i64 l, .int .i64 m, .slice (some ⟨gK, 0, none⟩) N kK, .slice (some ⟨gL, 0, none⟩) N kL, .slice none 0 0, .slice none 0 0, .int .i64 0, .slice none 0 0, .slice none 0 0] 0 w5, zX, x1, x2⟩
        generalize (((((((((((((w5.setCell ⟨X, 0, none⟩ (.int .i64 N)).setCell ⟨X, 1, none⟩ (.int .i64 f)).setCell ⟨X, 2, none⟩ (.int .i64 p)).setCell ⟨X, 3, none⟩ (.int .i64 a)).setCell ⟨X, 4, none⟩ (.int .i64 l)).setCell ⟨X, 5, none⟩ (.int .i64 m)).setCell ⟨X, 6, none⟩ (.slice (some ⟨gK, 0, none⟩) N kK)).setCell ⟨X, 7, none⟩ (.slice (some ⟨gL, 0, none⟩) N kL)).setCell ⟨X, 8, none⟩ (.slice none 0 0)).setCell ⟨X, 9, none⟩ (.slice none 0 0)).setCell ⟨X, 10, none⟩ (.int .i64 0)).setCell ⟨X, 11, none⟩ (.slice none 0 0)).setCell ⟨X, 12, none⟩ (.slice none 0 0)) = w8 at NC ⊢
        replace NB := NC.NB
        try dsimp only
        refine hK.out _ _ ⟨NB.R.cell 0 rfl, NB.R.cell 1 rfl, NB.R.cell 2 rfl, NB.R.cell 3 rfl, NB.R.cell 4 rfl, NB.R.cell 5 rfl⟩ ?_; clear hK K hHeld; intro hHeld; try simp only [Act.put, List.setIfInBounds_toArray, List.set_cons_zero, List.set_cons_succ]
        refine wpAnyH_done (by kernel_rfl) ?_ _
        refine NoPanic.normal ?_
        clear hHeld
        go_wp2_with fail
        go_meet
        case rel => exact ⟨X, gK, kK, gL, kL, rfl, NC⟩
  case rest =>
    obtain ⟨X, gK, kK, gL, kL, rfl, HC⟩ := hcut
    have NC := HC.out
    clear HC
    have hlt := NC.lt
    obtain ⟨i1, hi1, hp0, hp1, hp2⟩ := info_parts info_peer
    go_wp2_with fail
    go_loopw [11] (fun i w' => (∃ (k : Nat) (v : Value), k ≤ N ∧ i = .int .i64 k ∧ Hid (Nc w N f p a l m X gK kK gL kL zs bs v w' ∧ OwnP w' wc.heap.size v k (os.take k) ∧ wc.heap.size ≤ w'.heap.size))) (fun i _ => N - (intOf i).toNat)
    case atStart => exact ⟨0, .slice none 0 0, Nat.zero_le _, rfl, ⟨NC, World.ownsRow_nil _ _ _ _, Nat.le_refl _⟩⟩
    case round =>
      clear NC
      obtain ⟨k, v, hk, rfl, HH⟩ := hrel
      obtain ⟨NC, OP, hsz⟩ := HH.out
      clear HH
      by_cases hl : k < N
      · have hi : (k : Int) < N := by omega
        have cellO : ∀ {v : Value} {w2 : World}, Nc w N f p a l m X gK kK gL kL zs bs v w2 → w2.cell? ⟨bO, oO + k, none⟩ = some (.int .i64 (el os k)) := fun h => by rw [h.NB.B.cell (p := ⟨bO, oO + k, none⟩) hbO]; exact hcO k hl
        go_wp2_with fail
        replace NC := NC.below (Below.refl _ _).drew
        replace OP := own_below OP (Below.refl _ _).drew
        replace hsz : wc.heap.size ≤ wr.drew.heap.size := hsz
        refine wp_region_noPanic ?_
        refine wp_region_held_drew (S := (fun w' => w'.cell? ⟨bO, oO + k, none⟩ = some (.int .i64 (el os k)))) (by kernel_rfl) (cellO NC) (fun hHeld => ?_)
        generalize wr.drew = wd at hHeld NC OP hsz ⊢
        have cO := hHeld
        refine Tk.W 0 (some 25) (.fieldAddr 35 (.tmp 10) 3) 0 none ?_
        refine Tk.W 2 (some 27) (.move (.tmp 2)) 26 none ?_
        refine Tk.W 3 (some 28) (.move (.tmp 11)) 3 none ?_
        refine Tk.W 4 (some 29) (.indexAddr 26 (.tmp 27) (.tmp 28)) 0 none ?_
        refine Tk.W 5 (some 30) (.load 2 (.tmp 29)) 2 none ?_
        refine Tk.W 6 (some 31) (.build 44 #[(0, .tmp 30), (1, .const (.int .i64 1))]) 44 none ?_
        refine wpAnyH_ready (rs := [1, 7]) (by kernel_rfl) (by simp) ?_
        refine (AllReadyH.cons (o := ⟨some 26, .load 30 (.tmp 25), 30, _, _, none⟩) rfl (fun K hK => ?_) (AllReadyH.cons (o := ⟨some 32, .buildSlice 30 1 #[(0, .tmp 31)], 30, _, _, none⟩) rfl (fun K hK => ?_) AllReadyH.nil))
        · have c8 := NC.C.cell 8 rfl
          go_simp
          clear c8
          try dsimp only
          refine hK.out _ _ cO ?_; clear hK K hHeld; intro hHeld; try simp only [Act.put, List.setIfInBounds_toArray, List.set_cons_zero, List.set_cons_succ]
          refine Tk.R 7 (some 32) (.buildSlice 30 1 #[(0, .tmp 31)]) 30 none (fun K hK => ?_)
          go_simp
          have b7 := (Below.refl wd.heap.size wd).alloc (Nat.le_refl _) (.cells #[.int .i64 (el os k), .int .i64 1, .bool false, .slice none 0 0] 44)
          have hn7 := one_peer wd (el os k)
          have e7 := World.size_alloc wd (.cells #[.int .i64 (el os k), .int .i64 1, .bool false, .slice none 0 0] 44)
          replace NC := NC.below b7
          replace OP := own_below OP b7
          have cO := cellO NC
          obtain ⟨g7, hg7⟩ : ∃ g7, g7 = wd.heap.size := ⟨_, rfl⟩
          rw [← hg7] at hn7 ⊢
          replace hsz : wc.heap.size ≤ (wd.alloc (.cells #[.int .i64 (el os k), .int .i64 1, .bool false, .slice none 0 0] 44)).heap.size := by omega
          generalize wd.alloc (.cells #[.int .i64 (el os k), .int .i64 1, .bool false, .slice none 0 0] 44) = x7 at NC OP hn7 hsz cO ⊢
          clear b7 hg7 e7
          try dsimp only
          refine hK.out _ _ cO ?_; clear hK K hHeld; intro hHeld; try simp only [Act.put, List.setIfInBounds_toArray, List.set_cons_zero, List.set_cons_succ]
          refine Tk.R 8 (some 33) (.call ⟨.builtin .append, #[.tmp 26, .tmp 32], #[30, 30]⟩) 30 none (fun K hK => ?_)
          refine Ow.step_own_at rfl (.tmp 26) (.tmp 32) 30 rfl wc.heap.size 44 i1 (.agg #[.int .i64 0, .int .i64 0, .bool false, .slice none 0 0]) 4 48 Tryz.underlying30 hi1 hp0 hp1 hp2 rfl (by decide) v k (pcs (os.take k)) rfl OP ⟨g7, 0, none⟩ 1 1 [.int .i64 (el os k), .int .i64 1, .bool false, .slice none 0 0] rfl rfl hn7 (by simp [Value.oneCell']) (by unfold maxLen; omega) (by omega) hsz ?_
          intro v8 x8 hx8 hg8 hn8 ha8
          obtain ⟨aP, cP, rfl⟩ := own_sl hx8
          have bw := (Below.refl wc.heap.size x7).grown hg8 hsz (fun g hg => (own_lt OP hg).1)
          replace NC := NC.keep bw hlt
          have OP8 : OwnP x8 wc.heap.size (.slice aP (k + 1) cP) (k + 1) (os.take (k + 1)) := by rw [Ow.take_el os k (by omega), OwnP, pcs_app]; exact hx8
          have cO := cellO NC
          replace hsz := Nat.le_trans hsz bw.size
          clear hx8 hg8 hn8 ha8 bw OP hn7
          try dsimp only
          refine hK.out _ _ cO ?_; clear hK K hHeld; intro hHeld; try simp only [Act.put, List.setIfInBounds_toArray, List.set_cons_zero, List.set_cons_succ]
          refine Tk.W 9 (some 34) (.fieldAddr 35 (.tmp 10) 3) 0 none ?_
          refine Tk.R 10 none (.store 30 (.tmp 34) (.tmp 33)) 0 none (fun K hK => ?_)
          have c8 := NC.C.cell 8 rfl
          have f8 := NC.C.froz 8 rfl
          go_simp
          clear c8 f8
          replace NC := NC.put (.slice aP (k + 1) cP)
          have OP9 : OwnP (x8.setCell ⟨X, 8, none⟩ (.slice aP (k + 1) cP)) wc.heap.size (.slice aP (k + 1) cP) (k + 1) (os.take (k + 1)) := own_keep OP8 fun g hg => Below.heap_setCell _ _ _ _ (by have := (own_lt OP8 hg).1; simp; omega)
          replace hsz : wc.heap.size ≤ (x8.setCell ⟨X, 8, none⟩ (.slice aP (k + 1) cP)).heap.size := by simpa [World.setCell] using hsz
          have cO := cellO NC
          clear OP8
          generalize x8.setCell ⟨X, 8, none⟩ (.slice aP (k + 1) cP) = x10 at NC OP9 hsz cO ⊢
          try dsimp only
          refine hK.out _ _ cO ?_; clear hK K hHeld; intro hHeld; try simp only [Act.put, List.setIfInBounds_toArray, List.set_cons_zero, List.set_cons_succ]
          refine wpAnyH_done (by kernel_rfl) ?_ _
          refine NoPanic.normal ?_
          clear hHeld
          go_wp2
          go_roundw
          case rel => exact ⟨k + 1, .slice aP (k + 1) cP, by omega, by go_num, ⟨NC, OP9, hsz⟩⟩
          case measure => simp [intOf]; omega
        · go_simp
          have b7 := (Below.refl wd.heap.size wd).alloc (Nat.le_refl _) (.cells #[.int .i64 (el os k), .int .i64 1, .bool false, .slice none 0 0] 44)
          have hn7 := one_peer wd (el os k)
          have e7 := World.size_alloc wd (.cells #[.int .i64 (el os k), .int .i64 1, .bool false, .slice none 0 0] 44)
          replace NC := NC.below b7
          replace OP := own_below OP b7
          have cO := cellO NC
          obtain ⟨g7, hg7⟩ : ∃ g7, g7 = wd.heap.size := ⟨_, rfl⟩
          rw [← hg7] at hn7 ⊢
          replace hsz : wc.heap.size ≤ (wd.alloc (.cells #[.int .i64 (el os k), .int .i64 1, .bool false, .slice none 0 0] 44)).heap.size := by omega
          generalize wd.alloc (.cells #[.int .i64 (el os k), .int .i64 1, .bool false, .slice none 0 0] 44) = x7 at NC OP hn7 hsz cO ⊢
          clear b7 hg7 e7
          try dsimp only
          refine hK.out _ _ cO ?_; clear hK K hHeld; intro hHeld; try simp only [Act.put, List.setIfInBounds_toArray, List.set_cons_zero, List.set_cons_succ]
          refine Tk.R 1 (some 26) (.load 30 (.tmp 25)) 30 none (fun K hK => ?_)
          have c8 := NC.C.cell 8 rfl
          go_simp
          clear c8
          try dsimp only
          refine hK.out _ _ cO ?_; clear hK K hHeld; intro hHeld; try simp only [Act.put, List.setIfInBounds_toArray, List.set_cons_zero, List.set_cons_succ]
          refine Tk.R 8 (some 33) (.call ⟨.builtin .append, #[.tmp 26, .tmp 32], #[30, 30]⟩) 30 none (fun K hK => ?_)
          refine Ow.step_own_at rfl (.tmp 26) (.tmp 32) 30 rfl wc.heap.size 44 i1 (.agg #[.int .i64 0, .int .i64 0, .bool false, .slice none 0 0]) 4 48 Tryz.underlying30 hi1 hp0 hp1 hp2 rfl (by decide) v k (pcs (os.take k)) rfl OP ⟨g7, 0, none⟩ 1 1 [.int .i64 (el os k), .int .i64 1, .bool false, .slice none 0 0] rfl rfl hn7 (by simp [Value.oneCell']) (by unfold maxLen; omega) (by omega) hsz ?_
          intro v8 x8 hx8 hg8 hn8 ha8
          obtain ⟨aP, cP, rfl⟩ := own_sl hx8
          have bw := (Below.refl wc.heap.size x7).grown hg8 hsz (fun g hg => (own_lt OP hg).1)
          replace NC := NC.keep bw hlt
          have OP8 : OwnP x8 wc.heap.size (.slice aP (k + 1) cP) (k + 1) (os.take (k + 1)) := by rw [Ow.take_el os k (by omega), OwnP, pcs_app]; exact hx8
          have cO := cellO NC
          replace hsz := Nat.le_trans hsz bw.size
          clear hx8 hg8 hn8 ha8 bw OP hn7
          try dsimp only
          refine hK.out _ _ cO ?_; clear hK K hHeld; intro hHeld; try simp only [Act.put, List.setIfInBounds_toArray, List.set_cons_zero, List.set_cons_succ]
          refine Tk.W 9 (some 34) (.fieldAddr 35 (.tmp 10) 3) 0 none ?_
          refine Tk.R 10 none (.store 30 (.tmp 34) (.tmp 33)) 0 none (fun K hK => ?_)
          have c8 := NC.C.cell 8 rfl
          have f8 := NC.C.froz 8 rfl
          go_simp
          clear c8 f8
          replace NC := NC.put (.slice aP (k + 1) cP)
          have OP9 : OwnP (x8.setCell ⟨X, 8, none⟩ (.slice aP (k + 1) cP)) wc.heap.size (.slice aP (k + 1) cP) (k + 1) (os.take (k + 1)) := own_keep OP8 fun g hg => Below.heap_setCell _ _ _ _ (by have := (own_lt OP8 hg).1; simp; omega)
          replace hsz : wc.heap.size ≤ (x8.setCell ⟨X, 8, none⟩ (.slice aP (k + 1) cP)).heap.size := by simpa [World.setCell] using hsz
          have cO := cellO NC
          clear OP8
          generalize x8.setCell ⟨X, 8, none⟩ (.slice aP (k + 1) cP) = x10 at NC OP9 hsz cO ⊢
          try dsimp only
          refine hK.out _ _ cO ?_; clear hK K hHeld; intro hHeld; try simp only [Act.put, List.setIfInBounds_toArray, List.set_cons_zero, List.set_cons_succ]
          refine wpAnyH_done (by kernel_rfl) ?_ _
          refine NoPanic.normal ?_
          clear hHeld
          go_wp2
          go_roundw
          case rel => exact ⟨k + 1, .slice aP (k + 1) cP, by omega, by go_num, ⟨NC, OP9, hsz⟩⟩
          case measure => simp [intOf]; omega
      · have hi : ¬ (k : Int) < N := by omega
        have e : N = k := by omega
        subst e
        rw [List.take_of_length_le (by omega)] at OP
        obtain ⟨aP, cP, rfl, PP⟩ := OwnP.peers OP
        have NW : New wr N f p a l m (some ⟨gK, 0, none⟩) (some ⟨gL, 0, none⟩) aP zs os bs := ⟨rk, NC.K.row, ko, OwnB.flags NC.L, ct, PP, off⟩
        clear PP
        have e0 := NC.C.cell 0 rfl
        have e1 := NC.C.cell 1 rfl
        have e2 := NC.C.cell 2 rfl
        have e3 := NC.C.cell 3 rfl
        have e4 := NC.C.cell 4 rfl
        have e5 := NC.C.cell 5 rfl
        have e6 := NC.C.cell 6 rfl
        have e7 := NC.C.cell 7 rfl
        have e8 := NC.C.cell 8 rfl
        have e9 := NC.C.cell 9 rfl
        have e10 := NC.C.cell 10 rfl
        have e11 := NC.C.cell 11 rfl
        have e12 := NC.C.cell 12 rfl
        go_wp2_with fail
        clear e0 e1 e2 e3 e4 e5 e6 e7 e8 e9 e10 e11 e12
        refine (courtOk N kK kL cP f p a l m _ _ aP zs os bs _ NW).mono ?_
        rintro e w9 ⟨rfl, b9⟩
        replace NC := NC.below b9
        replace OP := own_below OP b9
        clear b9 NW
        have e0 := NC.C.cell 0 rfl
        have e1 := NC.C.cell 1 rfl
        have e2 := NC.C.cell 2 rfl
        have e3 := NC.C.cell 3 rfl
        have e4 := NC.C.cell 4 rfl
        have e5 := NC.C.cell 5 rfl
        have e6 := NC.C.cell 6 rfl
        have e7 := NC.C.cell 7 rfl
        have e8 := NC.C.cell 8 rfl
        have e9 := NC.C.cell 9 rfl
        have e10 := NC.C.cell 10 rfl
        have e11 := NC.C.cell 11 rfl
        have e12 := NC.C.cell 12 rfl
        have d0 := NC.NB.Z.cell 0 rfl
        have d1 := NC.NB.Z.cell 1 rfl
        have d2 := NC.NB.Z.cell 2 rfl
        have d3 := NC.NB.Z.cell 3 rfl
        have d4 := NC.NB.Z.cell 4 rfl
        have d5 := NC.NB.Z.cell 5 rfl
        have d6 := NC.NB.Z.cell 6 rfl
        have d7 := NC.NB.Z.cell 7 rfl
        have d8 := NC.NB.Z.cell 8 rfl
        have d9 := NC.NB.Z.cell 9 rfl
        have d10 := NC.NB.Z.cell 10 rfl
        have d11 := NC.NB.Z.cell 11 rfl
        have d12 := NC.NB.Z.cell 12 rfl
        have f0 := NC.NB.Z.froz 0 rfl
        have f1 := NC.NB.Z.froz 1 rfl
        have f2 := NC.NB.Z.froz 2 rfl
        have f3 := NC.NB.Z.froz 3 rfl
        have f4 := NC.NB.Z.froz 4 rfl
        have f5 := NC.NB.Z.froz 5 rfl
        have f6 := NC.NB.Z.froz 6 rfl
        have f7 := NC.NB.Z.froz 7 rfl
        have f8 := NC.NB.Z.froz 8 rfl
        have f9 := NC.NB.Z.froz 9 rfl
        have f10 := NC.NB.Z.froz 10 rfl
        have f11 := NC.NB.Z.froz 11 rfl
        have f12 := NC.NB.Z.froz 12 rfl
        go_wp2_with fail
        clear e0 e1 e2 e3 e4 e5 e6 e7 e8 e9 e10 e11 e12 d0 f0 d1 f1 d2 f2 d3 f3 d4 f4 d5 f5 d6 f6 d7 f7 d8 f8 d9 f9 d10 f10 d11 f11 d12 f12
        have hlt9 := hlt.1
        have bz : Below w.heap.size w (((((((((((((w9.setCell ⟨w.heap.size + 1, 0, none⟩ (.int .i64 N)).setCell ⟨w.heap.size + 1, 1, none⟩ (.int .i64 f)).setCell ⟨w.heap.size + 1, 2, none⟩ (.int .i64 p)).setCell ⟨w.heap.size + 1, 3, none⟩ (.int .i64 a)).setCell ⟨w.heap.size + 1, 4, none⟩ (.int .i64 l)).setCell ⟨w.heap.size + 1, 5, none⟩ (.int .i64 m)).setCell ⟨w.heap.size + 1, 6, none⟩ (.slice (some ⟨gK, 0, none⟩) N kK)).setCell ⟨w.heap.size + 1, 7, none⟩ (.slice (some ⟨gL, 0, none⟩) N kL)).setCell ⟨w.heap.size + 1, 8, none⟩ (.slice aP N cP)).setCell ⟨w.heap.size + 1, 9, none⟩ (.slice none 0 0)).setCell ⟨w.heap.size + 1, 10, none⟩ (.int .i64 0)).setCell ⟨w.heap.size + 1, 11, none⟩ (.slice none 0 0)).setCell ⟨w.heap.size + 1, 12, none⟩ (.slice none 0 0)) := sets_below (by omega) [.int .i64 N, .int .i64 f, .int .i64 p, .int .i64 a, .int .i64 l, .int .i64 m, .slice (some ⟨gK, 0, none⟩) N kK, .slice (some ⟨gL, 0, none⟩) N kL, .slice aP N cP, .slice none 0 0, .int .i64 0, .slice none 0 0, .slice none 0 0] 0 w9 NC.NB.B
        have RZ : Room (((((((((((((w9.setCell ⟨w.heap.size + 1, 0, none⟩ (.int .i64 N)).setCell ⟨w.heap.size + 1, 1, none⟩ (.int .i64 f)).setCell ⟨w.heap.size + 1, 2, none⟩ (.int .i64 p)).setCell ⟨w.heap.size + 1, 3, none⟩ (.int .i64 a)).setCell ⟨w.heap.size + 1, 4, none⟩ (.int .i64 l)).setCell ⟨w.heap.size + 1, 5, none⟩ (.int .i64 m)).setCell ⟨w.heap.size + 1, 6, none⟩ (.slice (some ⟨gK, 0, none⟩) N kK)).setCell ⟨w.heap.size + 1, 7, none⟩ (.slice (some ⟨gL, 0, none⟩) N kL)).setCell ⟨w.heap.size + 1, 8, none⟩ (.slice aP N cP)).setCell ⟨w.heap.size + 1, 9, none⟩ (.slice none 0 0)).setCell ⟨w.heap.size + 1, 10, none⟩ (.int .i64 0)).setCell ⟨w.heap.size + 1, 11, none⟩ (.slice none 0 0)).setCell ⟨w.heap.size + 1, 12, none⟩ (.slice none 0 0)) (w.heap.size + 1) [.int .i64 N, .int .i64 f, .int .i64 p, .int .i64 a, .int .i64 l, .int .i64 m, .slice (some ⟨gK, 0, none⟩) N kK, .slice (some ⟨gL, 0, none⟩) N kL, .slice aP N cP, .slice none 0 0, .int .i64 0, .slice none 0 0, .slice none 0 0] := sets_room [.int .i64 N, .int .i64 f, .int .i64 p, .int .i64 a, .int .i64 l, .int .i64 m, .slice (some ⟨gK, 0, none⟩) N kK, .slice (some ⟨gL, 0, none⟩) N kL, .slice aP N cP, .slice none 0 0, .int .i64 0, .slice none 0 0, .slice none 0 0] 0 w9 [] z13 NC.NB.Z rfl rfl
        have oz : Own (((((((((((((w9.setCell ⟨w.heap.size + 1, 0, none⟩ (.int .i64 N)).setCell ⟨w.heap.size + 1, 1, none⟩ (.int .i64 f)).setCell ⟨w.heap.size + 1, 2, none⟩ (.int .i64 p)).setCell ⟨w.heap.size + 1, 3, none⟩ (.int .i64 a)).setCell ⟨w.heap.size + 1, 4, none⟩ (.int .i64 l)).setCell ⟨w.heap.size + 1, 5, none⟩ (.int .i64 m)).setCell ⟨w.heap.size + 1, 6, none⟩ (.slice (some ⟨gK, 0, none⟩) N kK)).setCell ⟨w.heap.size + 1, 7, none⟩ (.slice (some ⟨gL, 0, none⟩) N kL)).setCell ⟨w.heap.size + 1, 8, none⟩ (.slice aP N cP)).setCell ⟨w.heap.size + 1, 9, none⟩ (.slice none 0 0)).setCell ⟨w.heap.size + 1, 10, none⟩ (.int .i64 0)).setCell ⟨w.heap.size + 1, 11, none⟩ (.slice none 0 0)).setCell ⟨w.heap.size + 1, 12, none⟩ (.slice none 0 0)) (w.heap.size + 2) gK N kK zs := own_keep NC.K fun g hg => sets_heap (by have := (own_lt NC.K hg).1; omega) [.int .i64 N, .int .i64 f, .int .i64 p, .int .i64 a, .int .i64 l, .int .i64 m, .slice (some ⟨gK, 0, none⟩) N kK, .slice (some ⟨gL, 0, none⟩) N kL, .slice aP N cP, .slice none 0 0, .int .i64 0, .slice none 0 0, .slice none 0 0] 0 w9
        have lz : OwnB (((((((((((((w9.setCell ⟨w.heap.size + 1, 0, none⟩ (.int .i64 N)).setCell ⟨w.heap.size + 1, 1, none⟩ (.int .i64 f)).setCell ⟨w.heap.size + 1, 2, none⟩ (.int .i64 p)).setCell ⟨w.heap.size + 1, 3, none⟩ (.int .i64 a)).setCell ⟨w.heap.size + 1, 4, none⟩ (.int .i64 l)).setCell ⟨w.heap.size + 1, 5, none⟩ (.int .i64 m)).setCell ⟨w.heap.size + 1, 6, none⟩ (.slice (some ⟨gK, 0, none⟩) N kK)).setCell ⟨w.heap.size + 1, 7, none⟩ (.slice (some ⟨gL, 0, none⟩) N kL)).setCell ⟨w.heap.size + 1, 8, none⟩ (.slice aP N cP)).setCell ⟨w.heap.size + 1, 9, none⟩ (.slice none 0 0)).setCell ⟨w.heap.size + 1, 10, none⟩ (.int .i64 0)).setCell ⟨w.heap.size + 1, 11, none⟩ (.slice none 0 0)).setCell ⟨w.heap.size + 1, 12, none⟩ (.slice none 0 0)) (w.heap.size + 2) gL N kL bs := own_keep NC.L fun g hg => sets_heap (by have := (own_lt NC.L hg).1; omega) [.int .i64 N, .int .i64 f, .int .i64 p, .int .i64 a, .int .i64 l, .int .i64 m, .slice (some ⟨gK, 0, none⟩) N kK, .slice (some ⟨gL, 0, none⟩) N kL, .slice aP N cP, .slice none 0 0, .int .i64 0, .slice none 0 0, .slice none 0 0] 0 w9
        have pz : OwnP (((((((((((((w9.setCell ⟨w.heap.size + 1, 0, none⟩ (.int .i64 N)).setCell ⟨w.heap.size + 1, 1, none⟩ (.int .i64 f)).setCell ⟨w.heap.size + 1, 2, none⟩ (.int .i64 p)).setCell ⟨w.heap.size + 1, 3, none⟩ (.int .i64 a)).setCell ⟨w.heap.size + 1, 4, none⟩ (.int .i64 l)).setCell ⟨w.heap.size + 1, 5, none⟩ (.int .i64 m)).setCell ⟨w.heap.size + 1, 6, none⟩ (.slice (some ⟨gK, 0, none⟩) N kK)).setCell ⟨w.heap.size + 1, 7, none⟩ (.slice (some ⟨gL, 0, none⟩) N kL)).setCell ⟨w.heap.size + 1, 8, none⟩ (.slice aP N cP)).setCell ⟨w.heap.size + 1, 9, none⟩ (.slice none 0 0)).setCell ⟨w.heap.size + 1, 10, none⟩ (.int .i64 0)).setCell ⟨w.heap.size + 1, 11, none⟩ (.slice none 0 0)).setCell ⟨w.heap.size + 1, 12, none⟩ (.slice none 0 0)) wc.heap.size (.slice aP N cP) N os := own_keep OP fun g hg => sets_heap (by have := (own_lt OP hg).1; omega) [.int .i64 N, .int .i64 f, .int .i64 p, .int .i64 a, .int .i64 l, .int .i64 m, .slice (some ⟨gK, 0, none⟩) N kK, .slice (some ⟨gL, 0, none⟩) N kL, .slice aP N cP, .slice none 0 0, .int .i64 0, .slice none 0 0, .slice none 0 0] 0 w9
        generalize (((((((((((((w9.setCell ⟨w.heap.size + 1, 0, none⟩ (.int .i64 N)).setCell ⟨w.heap.size + 1, 1, none⟩ (.int .i64 f)).setCell ⟨w.heap.size + 1, 2, none⟩ (.int .i64 p)).setCell ⟨w.heap.size + 1, 3, none⟩ (.int .i64 a)).setCell ⟨w.heap.size + 1, 4, none⟩ (.int .i64 l)).setCell ⟨w.heap.size + 1, 5, none⟩ (.int .i64 m)).setCell ⟨w.heap.size + 1, 6, none⟩ (.slice (some ⟨gK, 0, none⟩) N kK)).setCell ⟨w.heap.size + 1, 7, none⟩ (.slice (some ⟨gL, 0, none⟩) N kL)).setCell ⟨w.heap.size + 1, 8, none⟩ (.slice aP N cP)).setCell ⟨w.heap.size + 1, 9, none⟩ (.slice none 0 0)).setCell ⟨w.heap.size + 1, 10, none⟩ (.int .i64 0)).setCell ⟨w.heap.size + 1, 11, none⟩ (.slice none 0 0)).setCell ⟨w.heap.size + 1, 12, none⟩ (.slice none 0 0)) = wz at bz RZ oz lz pz ⊢
        refine bodyPost_ret (v := .tuple #[crt N f p a l m (.slice (some ⟨gK, 0, none⟩) N kK) (.slice (some ⟨gL, 0, none⟩) N kL) (.slice aP N cP), .bool true]) (ret13 Tryz.results11 rfl rfl RZ) rfl ⟨⟨gK, kK, gL, kL, aP, cP, rfl, own_low oz (by omega), own_low lz (by omega), own_low pz (by omega)⟩, bz⟩

end Go.Proofs.YtimakfokgcnklaaGreat.Ct
