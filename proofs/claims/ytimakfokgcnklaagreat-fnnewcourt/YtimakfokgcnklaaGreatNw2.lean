/-
  impl.NewCourt at whatever arguments.
-/
import Derived.Test.YtimakfokgcnklaaGreatNw1
import Derived.Test.YtimakfokgcnklaaGreatCt5
import Derived.Test.YtimakfokgcnklaaGreatTk
namespace Go.Proofs.YtimakfokgcnklaaGreat.Nw
open Go.ChangeShapes Go.WideShapes Go.ChangeAt Go.RowKit
open Ls (el Row)
open Rm (Room)
open Rd (Flags)
open Ow (ints Own)
open Ct (bools OwnB pcs Peers CT Ty sets_below sets_room sets_heap sets_size)
open Mi (hid)
open Ns (PD pd PeersAt ParcelsAt)
open Cd (CD CO RO RK PK)
open Sb (S3 Row3)
open Sp (retb)
set_option linter.unusedVariables false
set_option linter.unusedSimpArgs false

/-- A block no older than lo: what it holds. -/
structure Pk (w : World) (lo g : Nat) (vs : List Value) : Prop where
  lo : lo ≤ g
  lt : g < w.heap.size
  R : Room w g vs
theorem Pk.below {w w2 : World} {lo g : Nat} {vs : List Value} (h : Pk w lo g vs) (b : Below w.heap.size w w2) : Pk w2 lo g vs := ⟨h.lo, Nat.lt_of_lt_of_le h.lt b.size, h.R.below b⟩
theorem Pk.keep {w w2 : World} {lo g : Nat} {vs : List Value} (h : Pk w lo g vs) (e : w2.heap[g]? = w.heap[g]?) (hs : w.heap.size ≤ w2.heap.size) : Pk w2 lo g vs := ⟨h.lo, Nat.lt_of_lt_of_le h.lt hs, h.R.block e⟩
theorem Pk.low {w : World} {lo lo2 g : Nat} {vs : List Value} (h : Pk w lo g vs) (q : lo2 ≤ lo) : Pk w lo2 g vs := ⟨Nat.le_trans q h.lo, h.lt, h.R⟩
/-- The lists of a new court in blocks of their own. -/
structure Nm (w : World) (lo gK gL gP : Nat) (zs : List Int) (bs : List Bool) (os : List Int) : Prop where
  K : Pk w lo gK (ints zs)
  L : Pk w lo gL (bools bs)
  P : Pk w lo gP (pcs os)
  n1 : gK ≠ gL
  n2 : gK ≠ gP
  n3 : gL ≠ gP
theorem Nm.below {w w2 : World} {lo gK gL gP : Nat} {zs os : List Int} {bs : List Bool} (h : Nm w lo gK gL gP zs bs os) (b : Below w.heap.size w w2) : Nm w2 lo gK gL gP zs bs os := ⟨h.K.below b, h.L.below b, h.P.below b, h.n1, h.n2, h.n3⟩
theorem Nm.keep {w w2 : World} {lo gK gL gP : Nat} {zs os : List Int} {bs : List Bool} (h : Nm w lo gK gL gP zs bs os) (e : ∀ g, lo ≤ g → g < w.heap.size → w2.heap[g]? = w.heap[g]?) (hs : w.heap.size ≤ w2.heap.size) : Nm w2 lo gK gL gP zs bs os :=
  ⟨h.K.keep (e _ h.K.lo h.K.lt) hs, h.L.keep (e _ h.L.lo h.L.lt) hs, h.P.keep (e _ h.P.lo h.P.lt) hs, h.n1, h.n2, h.n3⟩
theorem Nm.low {w : World} {lo lo2 gK gL gP : Nat} {zs os : List Int} {bs : List Bool} (h : Nm w lo gK gL gP zs bs os) (q : lo2 ≤ lo) : Nm w lo2 gK gL gP zs bs os := ⟨h.K.low q, h.L.low q, h.P.low q, h.n1, h.n2, h.n3⟩
theorem room_row {w : World} {g : Nat} {zs : List Int} (hz : g < w.heap.size) (R : Room w g (ints zs)) : Row w w.heap.size (some ⟨g, 0, none⟩) zs.length zs :=
  ⟨rfl, .inr ⟨g, 0, rfl, hz, fun k hk => by
    rw [Nat.zero_add]
    refine R.cell k ?_
    simp [ints, el, List.getElem?_eq_getElem hk]⟩⟩
theorem room_flags {w : World} {g : Nat} {bs : List Bool} (hz : g < w.heap.size) (R : Room w g (bools bs)) : Flags w w.heap.size (some ⟨g, 0, none⟩) bs.length bs :=
  ⟨rfl, .inr ⟨g, 0, rfl, hz, fun k hk => by
    rw [Nat.zero_add]
    refine R.cell k ?_
    simp [bools, List.getElem?_eq_getElem hk]⟩⟩
theorem Nm.row {w : World} {lo gK gL gP : Nat} {zs os : List Int} {bs : List Bool} (h : Nm w lo gK gL gP zs bs os) : Row w w.heap.size (some ⟨gK, 0, none⟩) zs.length zs := room_row h.K.lt h.K.R
theorem Nm.flags {w : World} {lo gK gL gP : Nat} {zs os : List Int} {bs : List Bool} (h : Nm w lo gK gL gP zs bs os) : Flags w w.heap.size (some ⟨gL, 0, none⟩) bs.length bs := room_flags h.L.lt h.L.R
theorem Nm.peers {w : World} {lo gK gL gP : Nat} {zs os : List Int} {bs : List Bool} (h : Nm w lo gK gL gP zs bs os) : Peers w w.heap.size (some ⟨gP, 0, none⟩) os.length os := peers_room h.P.lt h.P.R
theorem own_some {w : World} {B s n : Nat} {e : TypeId} {a : Option Addr} {c : Nat} {xs : List Value} (h : w.ownsRow B e s (.slice a n c) n xs) (hn : 0 < n) : ∃ g, a = some ⟨g, 0, none⟩ := by
  rcases h.2 with ⟨q, rfl⟩ | ⟨g, cap, cur, q, _⟩
  · have := h.1
    cases q; omega
  · cases q; exact ⟨g, rfl⟩
theorem own_room {w : World} {B s n g c : Nat} {e : TypeId} {xs : List Value} (h : w.ownsRow B e s (.slice (some ⟨g, 0, none⟩) n c) n xs) : Pk w B g xs :=
  ⟨(Ct.own_lt h rfl).1, (Ct.own_lt h rfl).2, fun i v hv => Ct.own_cell h i v hv⟩
theorem own_rowI {w : World} {B n c : Nat} {a : Option Addr} {zs : List Int} (h : w.ownsRow B 2 1 (.slice a n c) n (ints zs)) : Row w w.heap.size a n zs := by
  have hl : zs.length = n := by have := h.1; rw [Ow.ints_len] at this; omega
  rcases h.2 with ⟨q, rfl⟩ | ⟨g, cap, cur, q, _⟩
  · exact ⟨hl, .inl (by cases q; rfl)⟩
  · cases q; exact Ow.Own.row h
theorem own_rowB {w : World} {B n c : Nat} {a : Option Addr} {bs : List Bool} (h : w.ownsRow B 4 1 (.slice a n c) n (bools bs)) : Flags w w.heap.size a n bs := by
  have hl : bs.length = n := by have := h.1; rw [Ct.bools_len] at this; omega
  rcases h.2 with ⟨q, rfl⟩ | ⟨g, cap, cur, q, _⟩
  · exact ⟨hl, .inl (by cases q; rfl)⟩
  · cases q; exact Ct.OwnB.flags h

/-- The rule's cells, the result's cells. -/
structure Nv (w wr : World) (n f p a l m : Int) : Prop where
  R : Room wr w.heap.size [.int .i64 n, .int .i64 f, .int .i64 p, .int .i64 a, .int .i64 l, .int .i64 m]
  Z : Room wr (w.heap.size + 1) [.int .i64 0, .int .i64 0, .int .i64 0, .int .i64 0, .int .i64 0, .int .i64 0, .slice none 0 0, .slice none 0 0, .slice none 0 0, .slice none 0 0, .int .i64 0, .slice none 0 0, .slice none 0 0]
  B : Below w.heap.size w wr
  sz : w.heap.size + 2 ≤ wr.heap.size
theorem Nv.keep {w w1 w2 : World} {n f p a l m : Int} (h : Nv w w1 n f p a l m) (b : Below (w.heap.size + 2) w1 w2) : Nv w w2 n f p a l m :=
  ⟨h.R.block (b.block _ (by omega)), h.Z.block (b.block _ (by omega)), h.B.trans (b.mono (by omega)), Nat.le_trans h.sz b.size⟩
theorem Nv.below {w w1 w2 : World} {n f p a l m : Int} (h : Nv w w1 n f p a l m) (b : Below w1.heap.size w1 w2) : Nv w w2 n f p a l m := h.keep (b.mono h.sz)
structure Ne (w wc : World) (n f p a l m : Int) (zs : List Int) (bs : List Bool) (os : List Int) (X : Nat) (a1 : Option Addr) (c1 : Nat) (a2 : Option Addr) (c2 gP : Nat) : Prop where
  V : Nv w wc n f p a l m
  C : Room wc X [.int .i64 n, .int .i64 f, .int .i64 p, .int .i64 a, .int .i64 l, .int .i64 m, .slice a1 zs.length c1, .slice a2 bs.length c2, .slice (some ⟨gP, 0, none⟩) os.length os.length, .slice none 0 0, .int .i64 0, .slice none 0 0, .slice none 0 0]
  K : wc.ownsRow (w.heap.size + 2) 2 1 (.slice a1 zs.length c1) zs.length (ints zs)
  L : wc.ownsRow (w.heap.size + 2) 4 1 (.slice a2 bs.length c2) bs.length (bools bs)
  P : Pk wc (w.heap.size + 2) gP (pcs os)
  kp : ∀ g, (Value.slice a1 zs.length c1).ownBlock = some g → g < gP
  lp : ∀ g, (Value.slice a2 bs.length c2).ownBlock = some g → g < gP
theorem Ne.below {w w1 w2 : World} {n f p a l m : Int} {zs os : List Int} {bs : List Bool} {X c1 c2 gP : Nat} {a1 a2 : Option Addr} (h : Ne w w1 n f p a l m zs bs os X a1 c1 a2 c2 gP) (b : Below w1.heap.size w1 w2) : Ne w w2 n f p a l m zs bs os X a1 c1 a2 c2 gP :=
  ⟨h.V.below b, h.C.below b, Ct.own_below h.K b, Ct.own_below h.L b, h.P.below b, h.kp, h.lp⟩
theorem ret13v {fn : Func} {ts : Array Value} {W : World} {R : Nat} {n f p a l m : Int} {aK aL aP : Option Addr} {n6 n7 n8 kK kL kP : Nat} {v : Value} (hf : fn.results = #[.cell 8 35, .tmp 9]) (h2 : ts[8]? = some (.pointer (some ⟨R, 0, none⟩))) (h3 : ts[9]? = some v) (h : Room W R [.int .i64 n, .int .i64 f, .int .i64 p, .int .i64 a, .int .i64 l, .int .i64 m, .slice aK n6 kK, .slice aL n7 kL, .slice aP n8 kP, .slice none 0 0, .int .i64 0, .slice none 0 0, .slice none 0 0]) :
    (results fn ts).run Tryz.prog W = .ok (.tuple #[V13 n f p a l m (.slice aK n6 kK) (.slice aL n7 kL) (.slice aP n8 kP), v]) W := by
  have q0 := h.cell 0 rfl
  have q1 := h.cell 1 rfl
  have q2 := h.cell 2 rfl
  have q3 := h.cell 3 rfl
  have q4 := h.cell 4 rfl
  have q5 := h.cell 5 rfl
  have q6 := h.cell 6 rfl
  have q7 := h.cell 7 rfl
  have q8 := h.cell 8 rfl
  have q9 := h.cell 9 rfl
  have q10 := h.cell 10 rfl
  have q11 := h.cell 11 rfl
  have q12 := h.cell 12 rfl
  simp [results, hf, h2, h3, go_sem, q0, q1, q2, q3, q4, q5, q6, q7, q8, q9, q10, q11, q12]

set_option maxHeartbeats 16000000 in
set_option maxRecDepth 100000 in
theorem i_NewCourt (n f p a l m : Int) (zs os : List Int) (bs : List Bool) (aK aO aL : Option Addr) (cK cO cL : Nat) (w : World) (rK : Row w w.heap.size aK zs.length zs) (rO : Row w w.heap.size aO os.length os) (rL : Flags w w.heap.size aL bs.length bs) (h1 : zs.length ≤ 1048576) (h2 : bs.length ≤ 1048576) (h3 : os.length ≤ 1048576) :
    Calls Tryz.prog 10 #[.agg #[.int .i64 n, .int .i64 f, .int .i64 p, .int .i64 a, .int .i64 l, .int .i64 m], .slice aK zs.length cK, .slice aO os.length cO, .slice aL bs.length cL] w fun e w' => ((NO n f p a l m zs bs os = true ∧ ∃ gK kK gL kL gP kP, e = .returned (.tuple #[V13 n f p a l m (.slice (some ⟨gK, 0, none⟩) zs.length kK) (.slice (some ⟨gL, 0, none⟩) bs.length kL) (.slice (some ⟨gP, 0, none⟩) os.length kP), .bool true]) ∧ Nm w' w.heap.size gK gL gP zs bs os) ∨ (NO n f p a l m zs bs os = false ∧ e = .returned (.tuple #[Z13, .bool false]))) ∧ Below w.heap.size w w' := by
  have NV : Nv w ((w.alloc (.cells #[.int .i64 n, .int .i64 f, .int .i64 p, .int .i64 a, .int .i64 l, .int .i64 m] 25)).alloc (.cells #[.int .i64 0, .int .i64 0, .int .i64 0, .int .i64 0, .int .i64 0, .int .i64 0, .slice none 0 0, .slice none 0 0, .slice none 0 0, .slice none 0 0, .int .i64 0, .slice none 0 0, .slice none 0 0] 35)) n f p a l m := ⟨(Room.new w [.int .i64 n, .int .i64 f, .int .i64 p, .int .i64 a, .int .i64 l, .int .i64 m] 25).alloc _, Room.at _ [.int .i64 0, .int .i64 0, .int .i64 0, .int .i64 0, .int .i64 0, .int .i64 0, .slice none 0 0, .slice none 0 0, .slice none 0 0, .slice none 0 0, .int .i64 0, .slice none 0 0, .slice none 0 0] 35 _ (by simp), ((Below.refl w.heap.size w).alloc (Nat.le_refl _) _).alloc (by simp) _, by simp⟩
  go_enter Tryz.func10, Tryz.ntmps10
  go_wp2_with fail
  generalize (w.alloc (.cells #[.int .i64 n, .int .i64 f, .int .i64 p, .int .i64 a, .int .i64 l, .int .i64 m] 25)).alloc (.cells #[.int .i64 0, .int .i64 0, .int .i64 0, .int .i64 0, .int .i64 0, .int .i64 0, .slice none 0 0, .slice none 0 0, .slice none 0 0, .slice none 0 0, .int .i64 0, .slice none 0 0, .slice none 0 0] 35) = w1 at NV ⊢
  replace NV := NV.below (Below.refl _ _).drew
  go_cut [10] from 11 (fun p10 wc => ∃ (X : Nat) (a1 : Option Addr) (c1 : Nat) (a2 : Option Addr) (c2 gP : Nat), p10 = .pointer (some ⟨X, 0, none⟩) ∧ Hid (Ne w wc n f p a l m zs bs os X a1 c1 a2 c2 gP))
  case first =>
    refine wp_region_noPanic ?_
    refine wp_region_held_drew (S := (fun w' => w'.cell? ⟨w.heap.size, 0, none⟩ = some (.int .i64 n) ∧ w'.cell? ⟨w.heap.size, 1, none⟩ = some (.int .i64 f) ∧ w'.cell? ⟨w.heap.size, 2, none⟩ = some (.int .i64 p) ∧ w'.cell? ⟨w.heap.size, 3, none⟩ = some (.int .i64 a) ∧ w'.cell? ⟨w.heap.size, 4, none⟩ = some (.int .i64 l) ∧ w'.cell? ⟨w.heap.size, 5, none⟩ = some (.int .i64 m))) (by kernel_rfl) ⟨NV.R.cell 0 rfl, NV.R.cell 1 rfl, NV.R.cell 2 rfl, NV.R.cell 3 rfl, NV.R.cell 4 rfl, NV.R.cell 5 rfl⟩ (fun hHeld => ?_)
    generalize w1.drew = y0 at hHeld NV ⊢
    refine Tk.W 0 (some 11) (.load 25 (.tmp 4)) 25 none ?_
    refine Tk.W 1 (some 12) (.move (.tmp 1)) 26 none ?_
    refine Tk.W 3 (some 14) (.move (.tmp 3)) 27 none ?_
    refine Tk.W 5 (some 16) (.move (.tmp 2)) 26 none ?_
    refine wpAnyH_ready (rs := [2, 8]) (by kernel_rfl) (by simp) ?_
    refine (AllReadyH.cons (o := ⟨some 13, .call ⟨.value (.func 43), #[.tmp 12], #[26]⟩, 26, _, _, none⟩) rfl (fun K hK => ?_) (AllReadyH.cons (o := ⟨some 10, .alloc 35, 0, _, _, none⟩) rfl (fun K hK => ?_) AllReadyH.nil))
    · go_simp
      refine (cloneI aK zs.length cK zs _ ((rK.later NV.B (Nat.le_refl _)).more NV.B.size) h1).mono ?_
      rintro e y1 ⟨⟨v1, rfl, oK⟩, bq5⟩
      obtain ⟨a1, c1, rfl⟩ := Ct.own_sl oK
      replace oK := Ct.own_low oK NV.sz
      replace NV := NV.below bq5
      clear bq5
      try dsimp only
      refine hK.out _ _ ⟨NV.R.cell 0 rfl, NV.R.cell 1 rfl, NV.R.cell 2 rfl, NV.R.cell 3 rfl, NV.R.cell 4 rfl, NV.R.cell 5 rfl⟩ ?_; clear hK K hHeld; intro hHeld; try simp only [Act.put, List.setIfInBounds_toArray, List.set_cons_zero, List.set_cons_succ]
      refine wpAnyH_ready (rs := [4, 8]) (by kernel_rfl) (by simp) ?_
      refine (AllReadyH.cons (o := ⟨some 15, .call ⟨.value (.func 44), #[.tmp 14], #[27]⟩, 27, _, _, none⟩) rfl (fun K hK => ?_) (AllReadyH.cons (o := ⟨some 10, .alloc 35, 0, _, _, none⟩) rfl (fun K hK => ?_) AllReadyH.nil))
      · go_simp
        refine (cloneB aL bs.length cL bs _ ((rL.later NV.B (Nat.le_refl _)).more NV.B.size) h2).mono ?_
        rintro e y2 ⟨⟨v2, rfl, oL⟩, bq6⟩
        obtain ⟨a2, c2, rfl⟩ := Ct.own_sl oL
        replace oL := Ct.own_low oL NV.sz
        replace oK := Ct.own_below oK bq6
        replace NV := NV.below bq6
        clear bq6
        try dsimp only
        refine hK.out _ _ ⟨NV.R.cell 0 rfl, NV.R.cell 1 rfl, NV.R.cell 2 rfl, NV.R.cell 3 rfl, NV.R.cell 4 rfl, NV.R.cell 5 rfl⟩ ?_; clear hK K hHeld; intro hHeld; try simp only [Act.put, List.setIfInBounds_toArray, List.set_cons_zero, List.set_cons_succ]
        refine wpAnyH_ready (rs := [6, 8]) (by kernel_rfl) (by simp) ?_
        refine (AllReadyH.cons (o := ⟨some 17, .call ⟨.value (.func 45), #[.tmp 16], #[26]⟩, 30, _, _, none⟩) rfl (fun K hK => ?_) (AllReadyH.cons (o := ⟨some 10, .alloc 35, 0, _, _, none⟩) rfl (fun K hK => ?_) AllReadyH.nil))
        · go_simp
          refine (newPeers aO cO os _ ((rO.later NV.B (Nat.le_refl _)).more NV.B.size) h3).mono ?_
          rintro e y3 ⟨⟨gP, rfl, hge, hlt, RP⟩, bq7⟩
          have bP : Pk y3 (w.heap.size + 2) gP (pcs os) := ⟨Nat.le_trans NV.sz hge, hlt, RP⟩
          have nKP : ∀ g, (Value.slice a1 zs.length c1).ownBlock = some g → g < gP := fun g hg => Nat.lt_of_lt_of_le (Ct.own_lt oK hg).2 hge
          have nLP : ∀ g, (Value.slice a2 bs.length c2).ownBlock = some g → g < gP := fun g hg => Nat.lt_of_lt_of_le (Ct.own_lt oL hg).2 hge
          replace oK := Ct.own_below oK bq7
          replace oL := Ct.own_below oL bq7
          replace NV := NV.below bq7
          clear bq7 hge hlt RP
          try dsimp only
          refine hK.out _ _ ⟨NV.R.cell 0 rfl, NV.R.cell 1 rfl, NV.R.cell 2 rfl, NV.R.cell 3 rfl, NV.R.cell 4 rfl, NV.R.cell 5 rfl⟩ ?_; clear hK K hHeld; intro hHeld; try simp only [Act.put, List.setIfInBounds_toArray, List.set_cons_zero, List.set_cons_succ]
          refine Tk.W 7 (some 18) (.build 35 #[(0, .tmp 11), (1, .tmp 13), (2, .tmp 15), (3, .tmp 17)]) 35 none ?_
          refine Tk.R 8 (some 10) (.alloc 35) 0 none (fun K hK => ?_)
          go_simp
          have b8 := (Below.refl y3.heap.size y3).alloc (Nat.le_refl _) (.cells #[.int .i64 0, .int .i64 0, .int .i64 0, .int .i64 0, .int .i64 0, .int .i64 0, .slice none 0 0, .slice none 0 0, .slice none 0 0, .slice none 0 0, .int .i64 0, .slice none 0 0, .slice none 0 0] 35)
          have RC := Room.new y3 [.int .i64 0, .int .i64 0, .int .i64 0, .int .i64 0, .int .i64 0, .int .i64 0, .slice none 0 0, .slice none 0 0, .slice none 0 0, .slice none 0 0, .int .i64 0, .slice none 0 0, .slice none 0 0] 35
          have TC := Ty.new y3 35 #[.int .i64 0, .int .i64 0, .int .i64 0, .int .i64 0, .int .i64 0, .int .i64 0, .slice none 0 0, .slice none 0 0, .slice none 0 0, .slice none 0 0, .int .i64 0, .slice none 0 0, .slice none 0 0]
          have zX := NV.sz
          have nXP : gP ≠ y3.heap.size := Nat.ne_of_lt bP.lt
          replace oK := Ct.own_below oK b8
          replace oL := Ct.own_below oL b8
          replace bP := bP.below b8
          replace NV := NV.below b8
          obtain ⟨X, hX⟩ : ∃ X, X = y3.heap.size := ⟨_, rfl⟩
          rw [← hX] at RC TC zX nXP ⊢
          generalize y3.alloc (.cells #[.int .i64 0, .int .i64 0, .int .i64 0, .int .i64 0, .int .i64 0, .int .i64 0, .slice none 0 0, .slice none 0 0, .slice none 0 0, .slice none 0 0, .int .i64 0, .slice none 0 0, .slice none 0 0] 35) = y4 at NV RC TC oK oL bP ⊢
          clear hX b8
          try dsimp only
          refine hK.out _ _ ⟨NV.R.cell 0 rfl, NV.R.cell 1 rfl, NV.R.cell 2 rfl, NV.R.cell 3 rfl, NV.R.cell 4 rfl, NV.R.cell 5 rfl⟩ ?_; clear hK K hHeld; intro hHeld; try simp only [Act.put, List.setIfInBounds_toArray, List.set_cons_zero, List.set_cons_succ]
          refine Tk.R 9 none (.store 35 (.tmp 10) (.tmp 18)) 0 none (fun K hK => ?_)
          have e0 := RC.cell 0 rfl
          have e1 := RC.cell 1 rfl
          have e2 := RC.cell 2 rfl
          have e3 := RC.cell 3 rfl
          have e4 := RC.cell 4 rfl
          have e5 := RC.cell 5 rfl
          have e6 := RC.cell 6 rfl
          have e7 := RC.cell 7 rfl
          have e8 := RC.cell 8 rfl
          have e9 := RC.cell 9 rfl
          have e10 := RC.cell 10 rfl
          have e11 := RC.cell 11 rfl
          have e12 := RC.cell 12 rfl
          have f0 := RC.froz 0 rfl
          have f1 := RC.froz 1 rfl
          have f2 := RC.froz 2 rfl
          have f3 := RC.froz 3 rfl
          have f4 := RC.froz 4 rfl
          have f5 := RC.froz 5 rfl
          have f6 := RC.froz 6 rfl
          have f7 := RC.froz 7 rfl
          have f8 := RC.froz 8 rfl
          have f9 := RC.froz 9 rfl
          have f10 := RC.froz 10 rfl
          have f11 := RC.froz 11 rfl
          have f12 := RC.froz 12 rfl
          go_simp
          clear e0 f0 e1 f1 e2 f2 e3 f3 e4 f4 e5 f5 e6 f6 e7 f7 e8 f8 e9 f9 e10 f10 e11 f11 e12 f12
          have NE : Ne w (((((((((((((y4.setCell ⟨X, 0, none⟩ (.int .i64 n)).setCell ⟨X, 1, none⟩ (.int .i64 f)).setCell ⟨X, 2, none⟩ (.int .i64 p)).setCell ⟨X, 3, none⟩ (.int .i64 a)).setCell ⟨X, 4, none⟩ (.int .i64 l)).setCell ⟨X, 5, none⟩ (.int .i64 m)).setCell ⟨X, 6, none⟩ (.slice a1 zs.length c1)).setCell ⟨X, 7, none⟩ (.slice a2 bs.length c2)).setCell ⟨X, 8, none⟩ (.slice (some ⟨gP, 0, none⟩) os.length os.length)).setCell ⟨X, 9, none⟩ (.slice none 0 0)).setCell ⟨X, 10, none⟩ (.int .i64 0)).setCell ⟨X, 11, none⟩ (.slice none 0 0)).setCell ⟨X, 12, none⟩ (.slice none 0 0)) n f p a l m zs bs os X a1 c1 a2 c2 gP := ⟨NV.keep (sets_below zX [.int .i64 n, .int .i64 f, .int .i64 p, .int .i64 a, .int .i64 l, .int .i64 m, .slice a1 zs.length c1, .slice a2 bs.length c2, .slice (some ⟨gP, 0, none⟩) os.length os.length, .slice none 0 0, .int .i64 0, .slice none 0 0, .slice none 0 0] 0 y4 (Below.refl _ _)), sets_room [.int .i64 n, .int .i64 f, .int .i64 p, .int .i64 a, .int .i64 l, .int .i64 m, .slice a1 zs.length c1, .slice a2 bs.length c2, .slice (some ⟨gP, 0, none⟩) os.length os.length, .slice none 0 0, .int .i64 0, .slice none 0 0, .slice none 0 0] 0 y4 [] [.int .i64 0, .int .i64 0, .int .i64 0, .int .i64 0, .int .i64 0, .int .i64 0, .slice none 0 0, .slice none 0 0, .slice none 0 0, .slice none 0 0, .int .i64 0, .slice none 0 0, .slice none 0 0] RC rfl rfl, Ct.own_keep oK fun g hg => sets_heap (Ct.own_ne oK hg TC (by decide)) [.int .i64 n, .int .i64 f, .int .i64 p, .int .i64 a, .int .i64 l, .int .i64 m, .slice a1 zs.length c1, .slice a2 bs.length c2, .slice (some ⟨gP, 0, none⟩) os.length os.length, .slice none 0 0, .int .i64 0, .slice none 0 0, .slice none 0 0] 0 y4, Ct.own_keep oL fun g hg => sets_heap (Ct.own_ne oL hg TC (by decide)) [.int .i64 n, .int .i64 f, .int .i64 p, .int .i64 a, .int .i64 l, .int .i64 m, .slice a1 zs.length c1, .slice a2 bs.length c2, .slice (some ⟨gP, 0, none⟩) os.length os.length, .slice none 0 0, .int .i64 0, .slice none 0 0, .slice none 0 0] 0 y4, bP.keep (sets_heap nXP [.int .i64 n, .int .i64 f, .int .i64 p, .int .i64 a, .int .i64 l, .int .i64 m, .slice a1 zs.length c1, .slice a2 bs.length c2, .slice (some ⟨gP, 0, none⟩) os.length os.length, .slice none 0 0, .int .i64 0, .slice none 0 0, .slice none 0 0] 0 y4) (Nat.le_of_eq (sets_size X [.int .i64 n, .int .i64 f, .int .i64 p, .int .i64 a, .int .i64 l, .int .i64 m, .slice a1 zs.length c1, .slice a2 bs.length c2, .slice (some ⟨gP, 0, none⟩) os.length os.length, .slice none 0 0, .int .i64 0, .slice none 0 0, .slice none 0 0] 0 y4).symm), nKP, nLP⟩
          generalize (((((((((((((y4.setCell ⟨X, 0, none⟩ (.int .i64 n)).setCell ⟨X, 1, none⟩ (.int .i64 f)).setCell ⟨X, 2, none⟩ (.int .i64 p)).setCell ⟨X, 3, none⟩ (.int .i64 a)).setCell ⟨X, 4, none⟩ (.int .i64 l)).setCell ⟨X, 5, none⟩ (.int .i64 m)).setCell ⟨X, 6, none⟩ (.slice a1 zs.length c1)).setCell ⟨X, 7, none⟩ (.slice a2 bs.length c2)).setCell ⟨X, 8, none⟩ (.slice (some ⟨gP, 0, none⟩) os.length os.length)).setCell ⟨X, 9, none⟩ (.slice none 0 0)).setCell ⟨X, 10, none⟩ (.int .i64 0)).setCell ⟨X, 11, none⟩ (.slice none 0 0)).setCell ⟨X, 12, none⟩ (.slice none 0 0)) = y5 at NE ⊢
          replace NV := NE.V
          try dsimp only
          refine hK.out _ _ ⟨NV.R.cell 0 rfl, NV.R.cell 1 rfl, NV.R.cell 2 rfl, NV.R.cell 3 rfl, NV.R.cell 4 rfl, NV.R.cell 5 rfl⟩ ?_; clear hK K hHeld; intro hHeld; try simp only [Act.put, List.setIfInBounds_toArray, List.set_cons_zero, List.set_cons_succ]
          refine wpAnyH_done (by kernel_rfl) ?_ _
          refine NoPanic.normal ?_
          clear hHeld
          go_wp2_with fail
          go_meet
          case rel => exact ⟨X, a1, c1, a2, c2, gP, rfl, NE⟩
        · go_simp
          have b8 := (Below.refl y2.heap.size y2).alloc (Nat.le_refl _) (.cells #[.int .i64 0, .int .i64 0, .int .i64 0, .int .i64 0, .int .i64 0, .int .i64 0, .slice none 0 0, .slice none 0 0, .slice none 0 0, .slice none 0 0, .int .i64 0, .slice none 0 0, .slice none 0 0] 35)
          have RC := Room.new y2 [.int .i64 0, .int .i64 0, .int .i64 0, .int .i64 0, .int .i64 0, .int .i64 0, .slice none 0 0, .slice none 0 0, .slice none 0 0, .slice none 0 0, .int .i64 0, .slice none 0 0, .slice none 0 0] 35
          have TC := Ty.new y2 35 #[.int .i64 0, .int .i64 0, .int .i64 0, .int .i64 0, .int .i64 0, .int .i64 0, .slice none 0 0, .slice none 0 0, .slice none 0 0, .slice none 0 0, .int .i64 0, .slice none 0 0, .slice none 0 0]
          have zX := NV.sz
          replace oK := Ct.own_below oK b8
          replace oL := Ct.own_below oL b8
          replace NV := NV.below b8
          obtain ⟨X, hX⟩ : ∃ X, X = y2.heap.size := ⟨_, rfl⟩
          rw [← hX] at RC TC zX  ⊢
          generalize y2.alloc (.cells #[.int .i64 0, .int .i64 0, .int .i64 0, .int .i64 0, .int .i64 0, .int .i64 0, .slice none 0 0, .slice none 0 0, .slice none 0 0, .slice none 0 0, .int .i64 0, .slice none 0 0, .slice none 0 0] 35) = y3 at NV RC TC oK oL ⊢
          clear hX b8
          try dsimp only
          refine hK.out _ _ ⟨NV.R.cell 0 rfl, NV.R.cell 1 rfl, NV.R.cell 2 rfl, NV.R.cell 3 rfl, NV.R.cell 4 rfl, NV.R.cell 5 rfl⟩ ?_; clear hK K hHeld; intro hHeld; try simp only [Act.put, List.setIfInBounds_toArray, List.set_cons_zero, List.set_cons_succ]
          refine Tk.R 6 (some 17) (.call ⟨.value (.func 45), #[.tmp 16], #[26]⟩) 30 none (fun K hK => ?_)
          go_simp
          refine (newPeers aO cO os _ ((rO.later NV.B (Nat.le_refl _)).more NV.B.size) h3).mono ?_
          rintro e y4 ⟨⟨gP, rfl, hge, hlt, RP⟩, bq12⟩
          have bP : Pk y4 (w.heap.size + 2) gP (pcs os) := ⟨Nat.le_trans NV.sz hge, hlt, RP⟩
          have nKP : ∀ g, (Value.slice a1 zs.length c1).ownBlock = some g → g < gP := fun g hg => Nat.lt_of_lt_of_le (Ct.own_lt oK hg).2 hge
          have nLP : ∀ g, (Value.slice a2 bs.length c2).ownBlock = some g → g < gP := fun g hg => Nat.lt_of_lt_of_le (Ct.own_lt oL hg).2 hge
          have nXP : gP ≠ X := fun e => by have := TC.lt; omega
          replace oK := Ct.own_below oK bq12
          replace oL := Ct.own_below oL bq12
          replace RC := RC.below bq12
          replace TC := TC.keep (bq12.block _ TC.lt)
          replace NV := NV.below bq12
          clear bq12 hge hlt RP
          try dsimp only
          refine hK.out _ _ ⟨NV.R.cell 0 rfl, NV.R.cell 1 rfl, NV.R.cell 2 rfl, NV.R.cell 3 rfl, NV.R.cell 4 rfl, NV.R.cell 5 rfl⟩ ?_; clear hK K hHeld; intro hHeld; try simp only [Act.put, List.setIfInBounds_toArray, List.set_cons_zero, List.set_cons_succ]
          refine Tk.W 7 (some 18) (.build 35 #[(0, .tmp 11), (1, .tmp 13), (2, .tmp 15), (3, .tmp 17)]) 35 none ?_
          refine Tk.R 9 none (.store 35 (.tmp 10) (.tmp 18)) 0 none (fun K hK => ?_)
          have e0 := RC.cell 0 rfl
          have e1 := RC.cell 1 rfl
          have e2 := RC.cell 2 rfl
          have e3 := RC.cell 3 rfl
          have e4 := RC.cell 4 rfl
          have e5 := RC.cell 5 rfl
          have e6 := RC.cell 6 rfl
          have e7 := RC.cell 7 rfl
          have e8 := RC.cell 8 rfl
          have e9 := RC.cell 9 rfl
          have e10 := RC.cell 10 rfl
          have e11 := RC.cell 11 rfl
          have e12 := RC.cell 12 rfl
          have f0 := RC.froz 0 rfl
          have f1 := RC.froz 1 rfl
          have f2 := RC.froz 2 rfl
          have f3 := RC.froz 3 rfl
          have f4 := RC.froz 4 rfl
          have f5 := RC.froz 5 rfl
          have f6 := RC.froz 6 rfl
          have f7 := RC.froz 7 rfl
          have f8 := RC.froz 8 rfl
          have f9 := RC.froz 9 rfl
          have f10 := RC.froz 10 rfl
          have f11 := RC.froz 11 rfl
          have f12 := RC.froz 12 rfl
          go_simp
          clear e0 f0 e1 f1 e2 f2 e3 f3 e4 f4 e5 f5 e6 f6 e7 f7 e8 f8 e9 f9 e10 f10 e11 f11 e12 f12
          have NE : Ne w (((((((((((((y4.setCell ⟨X, 0, none⟩ (.int .i64 n)).setCell ⟨X, 1, none⟩ (.int .i64 f)).setCell ⟨X, 2, none⟩ (.int .i64 p)).setCell ⟨X, 3, none⟩ (.int .i64 a)).setCell ⟨X, 4, none⟩ (.int .i64 l)).setCell ⟨X, 5, none⟩ (.int .i64 m)).setCell ⟨X, 6, none⟩ (.slice a1 zs.length c1)).setCell ⟨X, 7, none⟩ (.slice a2 bs.length c2)).setCell ⟨X, 8, none⟩ (.slice (some ⟨gP, 0, none⟩) os.length os.length)).setCell ⟨X, 9, none⟩ (.slice none 0 0)).setCell ⟨X, 10, none⟩ (.int .i64 0)).setCell ⟨X, 11, none⟩ (.slice none 0 0)).setCell ⟨X, 12, none⟩ (.slice none 0 0)) n f p a l m zs bs os X a1 c1 a2 c2 gP := ⟨NV.keep (sets_below zX [.int .i64 n, .int .i64 f, .int .i64 p, .int .i64 a, .int .i64 l, .int .i64 m, .slice a1 zs.length c1, .slice a2 bs.length c2, .slice (some ⟨gP, 0, none⟩) os.length os.length, .slice none 0 0, .int .i64 0, .slice none 0 0, .slice none 0 0] 0 y4 (Below.refl _ _)), sets_room [.int .i64 n, .int .i64 f, .int .i64 p, .int .i64 a, .int .i64 l, .int .i64 m, .slice a1 zs.length c1, .slice a2 bs.length c2, .slice (some ⟨gP, 0, none⟩) os.length os.length, .slice none 0 0, .int .i64 0, .slice none 0 0, .slice none 0 0] 0 y4 [] [.int .i64 0, .int .i64 0, .int .i64 0, .int .i64 0, .int .i64 0, .int .i64 0, .slice none 0 0, .slice none 0 0, .slice none 0 0, .slice none 0 0, .int .i64 0, .slice none 0 0, .slice none 0 0] RC rfl rfl, Ct.own_keep oK fun g hg => sets_heap (Ct.own_ne oK hg TC (by decide)) [.int .i64 n, .int .i64 f, .int .i64 p, .int .i64 a, .int .i64 l, .int .i64 m, .slice a1 zs.length c1, .slice a2 bs.length c2, .slice (some ⟨gP, 0, none⟩) os.length os.length, .slice none 0 0, .int .i64 0, .slice none 0 0, .slice none 0 0] 0 y4, Ct.own_keep oL fun g hg => sets_heap (Ct.own_ne oL hg TC (by decide)) [.int .i64 n, .int .i64 f, .int .i64 p, .int .i64 a, .int .i64 l, .int .i64 m, .slice a1 zs.length c1, .slice a2 bs.length c2, .slice (some ⟨gP, 0, none⟩) os.length os.length, .slice none 0 0, .int .i64 0, .slice none 0 0, .slice none 0 0] 0 y4, bP.keep (sets_heap nXP [.int .i64 n, .int .i64 f, .int .i64 p, .int .i64 a, .int .i64 l, .int .i64 m, .slice a1 zs.length c1, .slice a2 bs.length c2, .slice (some ⟨gP, 0, none⟩) os.length os.length, .slice none 0 0, .int .i64 0, .slice none 0 0, .slice none 0 0] 0 y4) (Nat.le_of_eq (sets_size X [.int .i64 n, .int .i64 f, .int .i64 p, .int .i64 a, .int .i64 l, .int .i64 m, .slice a1 zs.length c1, .slice a2 bs.length c2, .slice (some ⟨gP, 0, none⟩) os.length os.length, .slice none 0 0, .int .i64 0, .slice none 0 0, .slice none 0 0] 0 y4).symm), nKP, nLP⟩
          generalize (((((((((((((y4.setCell ⟨X, 0, none⟩ (.int .i64 n)).setCell ⟨X, 1, none⟩ (.int .i64 f)).setCell ⟨X, 2, none⟩ (.int .i64 p)).setCell ⟨X, 3, none⟩ (.int .i64 a)).setCell ⟨X, 4, none⟩ (.int .i64 l)).setCell ⟨X, 5, none⟩ (.int .i64 m)).setCell ⟨X, 6, none⟩ (.slice a1 zs.length c1)).setCell ⟨X, 7, none⟩ (.slice a2 bs.length c2)).setCell ⟨X, 8, none⟩ (.slice (some ⟨gP, 0, none⟩) os.length os.length)).setCell ⟨X, 9, none⟩ (.slice none 0 0)).setCell ⟨X, 10, none⟩ (.int .i64 0)).setCell ⟨X, 11, none⟩ (.slice none 0 0)).setCell ⟨X, 12, none⟩ (.slice none 0 0)) = y5 at NE ⊢
          replace NV := NE.V
          try dsimp only
          refine hK.out _ _ ⟨NV.R.cell 0 rfl, NV.R.cell 1 rfl, NV.R.cell 2 rfl, NV.R.cell 3 rfl, NV.R.cell 4 rfl, NV.R.cell 5 rfl⟩ ?_; clear hK K hHeld; intro hHeld; try simp only [Act.put, List.setIfInBounds_toArray, List.set_cons_zero, List.set_cons_succ]
          refine wpAnyH_done (by kernel_rfl) ?_ _
          refine NoPanic.normal ?_
          clear hHeld
          go_wp2_with fail
          go_meet
          case rel => exact ⟨X, a1, c1, a2, c2, gP, rfl, NE⟩
      · go_simp
        have b8 := (Below.refl y1.heap.size y1).alloc (Nat.le_refl _) (.cells #[.int .i64 0, .int .i64 0, .int .i64 0, .int .i64 0, .int .i64 0, .int .i64 0, .slice none 0 0, .slice none 0 0, .slice none 0 0, .slice none 0 0, .int .i64 0, .slice none 0 0, .slice none 0 0] 35)
        have RC := Room.new y1 [.int .i64 0, .int .i64 0, .int .i64 0, .int .i64 0, .int .i64 0, .int .i64 0, .slice none 0 0, .slice none 0 0, .slice none 0 0, .slice none 0 0, .int .i64 0, .slice none 0 0, .slice none 0 0] 35
        have TC := Ty.new y1 35 #[.int .i64 0, .int .i64 0, .int .i64 0, .int .i64 0, .int .i64 0, .int .i64 0, .slice none 0 0, .slice none 0 0, .slice none 0 0, .slice none 0 0, .int .i64 0, .slice none 0 0, .slice none 0 0]
        have zX := NV.sz
        replace oK := Ct.own_below oK b8
        replace NV := NV.below b8
        obtain ⟨X, hX⟩ : ∃ X, X = y1.heap.size := ⟨_, rfl⟩
        rw [← hX] at RC TC zX  ⊢
        generalize y1.alloc (.cells #[.int .i64 0, .int .i64 0, .int .i64 0, .int .i64 0, .int .i64 0, .int .i64 0, .slice none 0 0, .slice none 0 0, .slice none 0 0, .slice none 0 0, .int .i64 0, .slice none 0 0, .slice none 0 0] 35) = y2 at NV RC TC oK ⊢
        clear hX b8
        try dsimp only
        refine hK.out _ _ ⟨NV.R.cell 0 rfl, NV.R.cell 1 rfl, NV.R.cell 2 rfl, NV.R.cell 3 rfl, NV.R.cell 4 rfl, NV.R.cell 5 rfl⟩ ?_; clear hK K hHeld; intro hHeld; try simp only [Act.put, List.setIfInBounds_toArray, List.set_cons_zero, List.set_cons_succ]
        refine Tk.R 4 (some 15) (.call ⟨.value (.func 44), #[.tmp 14], #[27]⟩) 27 none (fun K hK => ?_)
        go_simp
        refine (cloneB aL bs.length cL bs _ ((rL.later NV.B (Nat.le_refl _)).more NV.B.size) h2).mono ?_
        rintro e y3 ⟨⟨v2, rfl, oL⟩, bq16⟩
        obtain ⟨a2, c2, rfl⟩ := Ct.own_sl oL
        replace oL := Ct.own_low oL NV.sz
        replace oK := Ct.own_below oK bq16
        replace RC := RC.below bq16
        replace TC := TC.keep (bq16.block _ TC.lt)
        replace NV := NV.below bq16
        clear bq16
        try dsimp only
        refine hK.out _ _ ⟨NV.R.cell 0 rfl, NV.R.cell 1 rfl, NV.R.cell 2 rfl, NV.R.cell 3 rfl, NV.R.cell 4 rfl, NV.R.cell 5 rfl⟩ ?_; clear hK K hHeld; intro hHeld; try simp only [Act.put, List.setIfInBounds_toArray, List.set_cons_zero, List.set_cons_succ]
        refine Tk.R 6 (some 17) (.call ⟨.value (.func 45), #[.tmp 16], #[26]⟩) 30 none (fun K hK => ?_)
        go_simp
        refine (newPeers aO cO os _ ((rO.later NV.B (Nat.le_refl _)).more NV.B.size) h3).mono ?_
        rintro e y4 ⟨⟨gP, rfl, hge, hlt, RP⟩, bq17⟩
        have bP : Pk y4 (w.heap.size + 2) gP (pcs os) := ⟨Nat.le_trans NV.sz hge, hlt, RP⟩
        have nKP : ∀ g, (Value.slice a1 zs.length c1).ownBlock = some g → g < gP := fun g hg => Nat.lt_of_lt_of_le (Ct.own_lt oK hg).2 hge
        have nLP : ∀ g, (Value.slice a2 bs.length c2).ownBlock = some g → g < gP := fun g hg => Nat.lt_of_lt_of_le (Ct.own_lt oL hg).2 hge
        have nXP : gP ≠ X := fun e => by have := TC.lt; omega
        replace oK := Ct.own_below oK bq17
        replace oL := Ct.own_below oL bq17
        replace RC := RC.below bq17
        replace TC := TC.keep (bq17.block _ TC.lt)
        replace NV := NV.below bq17
        clear bq17 hge hlt RP
        try dsimp only
        refine hK.out _ _ ⟨NV.R.cell 0 rfl, NV.R.cell 1 rfl, NV.R.cell 2 rfl, NV.R.cell 3 rfl, NV.R.cell 4 rfl, NV.R.cell 5 rfl⟩ ?_; clear hK K hHeld; intro hHeld; try simp only [Act.put, List.setIfInBounds_toArray, List.set_cons_zero, List.set_cons_succ]
        refine Tk.W 7 (some 18) (.build 35 #[(0, .tmp 11), (1, .tmp 13), (2, .tmp 15), (3, .tmp 17)]) 35 none ?_
        refine Tk.R 9 none (.store 35 (.tmp 10) (.tmp 18)) 0 none (fun K hK => ?_)
        have e0 := RC.cell 0 rfl
        have e1 := RC.cell 1 rfl
        have e2 := RC.cell 2 rfl
        have e3 := RC.cell 3 rfl
        have e4 := RC.cell 4 rfl
        have e5 := RC.cell 5 rfl
        have e6 := RC.cell 6 rfl
        have e7 := RC.cell 7 rfl
        have e8 := RC.cell 8 rfl
        have e9 := RC.cell 9 rfl
        have e10 := RC.cell 10 rfl
        have e11 := RC.cell 11 rfl
        have e12 := RC.cell 12 rfl
        have f0 := RC.froz 0 rfl
        have f1 := RC.froz 1 rfl
        have f2 := RC.froz 2 rfl
        have f3 := RC.froz 3 rfl
        have f4 := RC.froz 4 rfl
        have f5 := RC.froz 5 rfl
        have f6 := RC.froz 6 rfl
        have f7 := RC.froz 7 rfl
        have f8 := RC.froz 8 rfl
        have f9 := RC.froz 9 rfl
        have f10 := RC.froz 10 rfl
        have f11 := RC.froz 11 rfl
        have f12 := RC.froz 12 rfl
        go_simp
        clear e0 f0 e1 f1 e2 f2 e3 f3 e4 f4 e5 f5 e6 f6 e7 f7 e8 f8 e9 f9 e10 f10 e11 f11 e12 f12
        have NE : Ne w (((((((((((((y4.setCell ⟨X, 0, none⟩ (.int .i64 n)).setCell ⟨X, 1, none⟩ (.int .i64 f)).setCell ⟨X, 2, none⟩ (.int .i64 p)).setCell ⟨X, 3, none⟩ (.int .i64 a)).setCell ⟨X, 4, none⟩ (.int .i64 l)).setCell ⟨X, 5, none⟩ (.int .i64 m)).setCell ⟨X, 6, none⟩ (.slice a1 zs.length c1)).setCell ⟨X, 7, none⟩ (.slice a2 bs.length c2)).setCell ⟨X, 8, none⟩ (.slice (some ⟨gP, 0, none⟩) os.length os.length)).setCell ⟨X, 9, none⟩ (.slice none 0 0)).setCell ⟨X, 10, none⟩ (.int .i64 0)).setCell ⟨X, 11, none⟩ (.slice none 0 0)).setCell ⟨X, 12, none⟩ (.slice none 0 0)) n f p a l m zs bs os X a1 c1 a2 c2 gP := ⟨NV.keep (sets_below zX [.int .i64 n, .int .i64 f, .int .i64 p, .int .i64 a, .int .i64 l, .int .i64 m, .slice a1 zs.length c1, .slice a2 bs.length c2, .slice (some ⟨gP, 0, none⟩) os.length os.length, .slice none 0 0, .int .i64 0, .slice none 0 0, .slice none 0 0] 0 y4 (Below.refl _ _)), sets_room [.int .i64 n, .int .i64 f, .int .i64 p, .int .i64 a, .int .i64 l, .int .i64 m, .slice a1 zs.length c1, .slice a2 bs.length c2, .slice (some ⟨gP, 0, none⟩) os.length os.length, .slice none 0 0, .int .i64 0, .slice none 0 0, .slice none 0 0] 0 y4 [] [.int .i64 0, .int .i64 0, .int .i64 0, .int .i64 0, .int .i64 0, .int .i64 0, .slice none 0 0, .slice none 0 0, .slice none 0 0, .slice none 0 0, .int .i64 0, .slice none 0 0, .slice none 0 0] RC rfl rfl, Ct.own_keep oK fun g hg => sets_heap (Ct.own_ne oK hg TC (by decide)) [.int .i64 n, .int .i64 f, .int .i64 p, .int .i64 a, .int .i64 l, .int .i64 m, .slice a1 zs.length c1, .slice a2 bs.length c2, .slice (some ⟨gP, 0, none⟩) os.length os.length, .slice none 0 0, .int .i64 0, .slice none 0 0, .slice none 0 0] 0 y4, Ct.own_keep oL fun g hg => sets_heap (Ct.own_ne oL hg TC (by decide)) [.int .i64 n, .int .i64 f, .int .i64 p, .int .i64 a, .int .i64 l, .int .i64 m, .slice a1 zs.length c1, .slice a2 bs.length c2, .slice (some ⟨gP, 0, none⟩) os.length os.length, .slice none 0 0, .int .i64 0, .slice none 0 0, .slice none 0 0] 0 y4, bP.keep (sets_heap nXP [.int .i64 n, .int .i64 f, .int .i64 p, .int .i64 a, .int .i64 l, .int .i64 m, .slice a1 zs.length c1, .slice a2 bs.length c2, .slice (some ⟨gP, 0, none⟩) os.length os.length, .slice none 0 0, .int .i64 0, .slice none 0 0, .slice none 0 0] 0 y4) (Nat.le_of_eq (sets_size X [.int .i64 n, .int .i64 f, .int .i64 p, .int .i64 a, .int .i64 l, .int .i64 m, .slice a1 zs.length c1, .slice a2 bs.length c2, .slice (some ⟨gP, 0, none⟩) os.length os.length, .slice none 0 0, .int .i64 0, .slice none 0 0, .slice none 0 0] 0 y4).symm), nKP, nLP⟩
        generalize (((((((((((((y4.setCell ⟨X, 0, none⟩ (.int .i64 n)).setCell ⟨X, 1, none⟩ (.int .i64 f)).setCell ⟨X, 2, none⟩ (.int .i64 p)).setCell ⟨X, 3, none⟩ (.int .i64 a)).setCell ⟨X, 4, none⟩ (.int .i64 l)).setCell ⟨X, 5, none⟩ (.int .i64 m)).setCell ⟨X, 6, none⟩ (.slice a1 zs.length c1)).setCell ⟨X, 7, none⟩ (.slice a2 bs.length c2)).setCell ⟨X, 8, none⟩ (.slice (some ⟨gP, 0, none⟩) os.length os.length)).setCell ⟨X, 9, none⟩ (.slice none 0 0)).setCell ⟨X, 10, none⟩ (.int .i64 0)).setCell ⟨X, 11, none⟩ (.slice none 0 0)).setCell ⟨X, 12, none⟩ (.slice none 0 0)) = y5 at NE ⊢
        replace NV := NE.V
        try dsimp only
        refine hK.out _ _ ⟨NV.R.cell 0 rfl, NV.R.cell 1 rfl, NV.R.cell 2 rfl, NV.R.cell 3 rfl, NV.R.cell 4 rfl, NV.R.cell 5 rfl⟩ ?_; clear hK K hHeld; intro hHeld; try simp only [Act.put, List.setIfInBounds_toArray, List.set_cons_zero, List.set_cons_succ]
        refine wpAnyH_done (by kernel_rfl) ?_ _
        refine NoPanic.normal ?_
        clear hHeld
        go_wp2_with fail
        go_meet
        case rel => exact ⟨X, a1, c1, a2, c2, gP, rfl, NE⟩
    · go_simp
      have b8 := (Below.refl y0.heap.size y0).alloc (Nat.le_refl _) (.cells #[.int .i64 0, .int .i64 0, .int .i64 0, .int .i64 0, .int .i64 0, .int .i64 0, .slice none 0 0, .slice none 0 0, .slice none 0 0, .slice none 0 0, .int .i64 0, .slice none 0 0, .slice none 0 0] 35)
      have RC := Room.new y0 [.int .i64 0, .int .i64 0, .int .i64 0, .int .i64 0, .int .i64 0, .int .i64 0, .slice none 0 0, .slice none 0 0, .slice none 0 0, .slice none 0 0, .int .i64 0, .slice none 0 0, .slice none 0 0] 35
      have TC := Ty.new y0 35 #[.int .i64 0, .int .i64 0, .int .i64 0, .int .i64 0, .int .i64 0, .int .i64 0, .slice none 0 0, .slice none 0 0, .slice none 0 0, .slice none 0 0, .int .i64 0, .slice none 0 0, .slice none 0 0]
      have zX := NV.sz
      replace NV := NV.below b8
      obtain ⟨X, hX⟩ : ∃ X, X = y0.heap.size := ⟨_, rfl⟩
      rw [← hX] at RC TC zX  ⊢
      generalize y0.alloc (.cells #[.int .i64 0, .int .i64 0, .int .i64 0, .int .i64 0, .int .i64 0, .int .i64 0, .slice none 0 0, .slice none 0 0, .slice none 0 0, .slice none 0 0, .int .i64 0, .slice none 0 0, .slice none 0 0] 35) = y1 at NV RC TC  ⊢
      clear hX b8
      try dsimp only
      refine hK.out _ _ ⟨NV.R.cell 0 rfl, NV.R.cell 1 rfl, NV.R.cell 2 rfl, NV.R.cell 3 rfl, NV.R.cell 4 rfl, NV.R.cell 5 rfl⟩ ?_; clear hK K hHeld; intro hHeld; try simp only [Act.put, List.setIfInBounds_toArray, List.set_cons_zero, List.set_cons_succ]
      refine Tk.R 2 (some 13) (.call ⟨.value (.func 43), #[.tmp 12], #[26]⟩) 26 none (fun K hK => ?_)
      go_simp
      refine (cloneI aK zs.length cK zs _ ((rK.later NV.B (Nat.le_refl _)).more NV.B.size) h1).mono ?_
      rintro e y2 ⟨⟨v1, rfl, oK⟩, bq21⟩
      obtain ⟨a1, c1, rfl⟩ := Ct.own_sl oK
      replace oK := Ct.own_low oK NV.sz
      replace RC := RC.below bq21
      replace TC := TC.keep (bq21.block _ TC.lt)
      replace NV := NV.below bq21
      clear bq21
      try dsimp only
      refine hK.out _ _ ⟨NV.R.cell 0 rfl, NV.R.cell 1 rfl, NV.R.cell 2 rfl, NV.R.cell 3 rfl, NV.R.cell 4 rfl, NV.R.cell 5 rfl⟩ ?_; clear hK K hHeld; intro hHeld; try simp only [Act.put, List.setIfInBounds_toArray, List.set_cons_zero, List.set_cons_succ]
      refine Tk.R 4 (some 15) (.call ⟨.value (.func 44), #[.tmp 14], #[27]⟩) 27 none (fun K hK => ?_)
      go_simp
      refine (cloneB aL bs.length cL bs _ ((rL.later NV.B (Nat.le_refl _)).more NV.B.size) h2).mono ?_
      rintro e y3 ⟨⟨v2, rfl, oL⟩, bq22⟩
      obtain ⟨a2, c2, rfl⟩ := Ct.own_sl oL
      replace oL := Ct.own_low oL NV.sz
      replace oK := Ct.own_below oK bq22
      replace RC := RC.below bq22
      replace TC := TC.keep (bq22.block _ TC.lt)
      replace NV := NV.below bq22
      clear bq22
      try dsimp only
      refine hK.out _ _ ⟨NV.R.cell 0 rfl, NV.R.cell 1 rfl, NV.R.cell 2 rfl, NV.R.cell 3 rfl, NV.R.cell 4 rfl, NV.R.cell 5 rfl⟩ ?_; clear hK K hHeld; intro hHeld; try simp only [Act.put, List.setIfInBounds_toArray, List.set_cons_zero, List.set_cons_succ]
      refine Tk.R 6 (some 17) (.call ⟨.value (.func 45), #[.tmp 16], #[26]⟩) 30 none (fun K hK => ?_)
      go_simp
      refine (newPeers aO cO os _ ((rO.later NV.B (Nat.le_refl _)).more NV.B.size) h3).mono ?_
      rintro e y4 ⟨⟨gP, rfl, hge, hlt, RP⟩, bq23⟩
      have bP : Pk y4 (w.heap.size + 2) gP (pcs os) := ⟨Nat.le_trans NV.sz hge, hlt, RP⟩
      have nKP : ∀ g, (Value.slice a1 zs.length c1).ownBlock = some g → g < gP := fun g hg => Nat.lt_of_lt_of_le (Ct.own_lt oK hg).2 hge
      have nLP : ∀ g, (Value.slice a2 bs.length c2).ownBlock = some g → g < gP := fun g hg => Nat.lt_of_lt_of_le (Ct.own_lt oL hg).2 hge
      have nXP : gP ≠ X := fun e => by have := TC.lt; omega
      replace oK := Ct.own_below oK bq23
      replace oL := Ct.own_below oL bq23
      replace RC := RC.below bq23
      replace TC := TC.keep (bq23.block _ TC.lt)
      replace NV := NV.below bq23
      clear bq23 hge hlt RP
      try dsimp only
      refine hK.out _ _ ⟨NV.R.cell 0 rfl, NV.R.cell 1 rfl, NV.R.cell 2 rfl, NV.R.cell 3 rfl, NV.R.cell 4 rfl, NV.R.cell 5 rfl⟩ ?_; clear hK K hHeld; intro hHeld; try simp only [Act.put, List.setIfInBounds_toArray, List.set_cons_zero, List.set_cons_succ]
      refine Tk.W 7 (some 18) (.build 35 #[(0, .tmp 11), (1, .tmp 13), (2, .tmp 15), (3, .tmp 17)]) 35 none ?_
      refine Tk.R 9 none (.store 35 (.tmp 10) (.tmp 18)) 0 none (fun K hK => ?_)
      have e0 := RC.cell 0 rfl
      have e1 := RC.cell 1 rfl
      have e2 := RC.cell 2 rfl
      have e3 := RC.cell 3 rfl
      have e4 := RC.cell 4 rfl
      have e5 := RC.cell 5 rfl
      have e6 := RC.cell 6 rfl
      have e7 := RC.cell 7 rfl
      have e8 := RC.cell 8 rfl
      have e9 := RC.cell 9 rfl
      have e10 := RC.cell 10 rfl
      have e11 := RC.cell 11 rfl
      have e12 := RC.cell 12 rfl
      have f0 := RC.froz 0 rfl
      have f1 := RC.froz 1 rfl
      have f2 := RC.froz 2 rfl
      have f3 := RC.froz 3 rfl
      have f4 := RC.froz 4 rfl
      have f5 := RC.froz 5 rfl
      have f6 := RC.froz 6 rfl
      have f7 := RC.froz 7 rfl
      have f8 := RC.froz 8 rfl
      have f9 := RC.froz 9 rfl
      have f10 := RC.froz 10 rfl
      have f11 := RC.froz 11 rfl
      have f12 := RC.froz 12 rfl
      go_simp
      clear e0 f0 e1 f1 e2 f2 e3 f3 e4 f4 e5 f5 e6 f6 e7 f7 e8 f8 e9 f9 e10 f10 e11 f11 e12 f12
      have NE : Ne w (((((((((((((y4.setCell ⟨X, 0, none⟩ (.int .i64 n)).setCell ⟨X, 1, none⟩ (.int .i64 f)).setCell ⟨X, 2, none⟩ (.int .i64 p)).setCell ⟨X, 3, none⟩ (.int .i64 a)).setCell ⟨X, 4, none⟩ (.int .i64 l)).setCell ⟨X, 5, none⟩ (.int .i64 m)).setCell ⟨X, 6, none⟩ (.slice a1 zs.length c1)).setCell ⟨X, 7, none⟩ (.slice a2 bs.length c2)).setCell ⟨X, 8, none⟩ (.slice (some ⟨gP, 0, none⟩) os.length os.length)).setCell ⟨X, 9, none⟩ (.slice none 0 0)).setCell ⟨X, 10, none⟩ (.int .i64 0)).setCell ⟨X, 11, none⟩ (.slice none 0 0)).setCell ⟨X, 12, none⟩ (.slice none 0 0)) n f p a l m zs bs os X a1 c1 a2 c2 gP := ⟨NV.keep (sets_below zX [.int .i64 n, .int .i64 f, .int .i64 p, .int .i64 a, .int .i64 l, .int .i64 m, .slice a1 zs.length c1, .slice a2 bs.length c2, .slice (some ⟨gP, 0, none⟩) os.length os.length, .slice none 0 0, .int .i64 0, .slice none 0 0, .slice none 0 0] 0 y4 (Below.refl _ _)), sets_room [.int .i64 n, .int .i64 f, .int .i64 p, .int .i64 a, .int .i64 l, .int .i64 m, .slice a1 zs.length c1, .slice a2 bs.length c2, .slice (some ⟨gP, 0, none⟩) os.length os.length, .slice none 0 0, .int .i64 0, .slice none 0 0, .slice none 0 0] 0 y4 [] [.int .i64 0, .int .i64 0, .int .i64 0, .int .i64 0, .int .i64 0, .int .i64 0, .slice none 0 0, .slice none 0 0, .slice none 0 0, .slice none 0 0, .int .i64 0, .slice none 0 0, .slice none 0 0] RC rfl rfl, Ct.own_keep oK fun g hg => sets_heap (Ct.own_ne oK hg TC (by decide)) [.int .i64 n, .int .i64 f, .int .i64 p, .int .i64 a, .int .i64 l, .int .i64 m, .slice a1 zs.length c1, .slice a2 bs.length c2, .slice (some ⟨gP, 0, none⟩) os.length os.length, .slice none 0 0, .int .i64 0, .slice none 0 0, .slice none 0 0] 0 y4, Ct.own_keep oL fun g hg => sets_heap (Ct.own_ne oL hg TC (by decide)) [.int .i64 n, .int .i64 f, .int .i64 p, .int .i64 a, .int .i64 l, .int .i64 m, .slice a1 zs.length c1, .slice a2 bs.length c2, .slice (some ⟨gP, 0, none⟩) os.length os.length, .slice none 0 0, .int .i64 0, .slice none 0 0, .slice none 0 0] 0 y4, bP.keep (sets_heap nXP [.int .i64 n, .int .i64 f, .int .i64 p, .int .i64 a, .int .i64 l, .int .i64 m, .slice a1 zs.length c1, .slice a2 bs.length c2, .slice (some ⟨gP, 0, none⟩) os.length os.length, .slice none 0 0, .int .i64 0, .slice none 0 0, .slice none 0 0] 0 y4) (Nat.le_of_eq (sets_size X [.int .i64 n, .int .i64 f, .int .i64 p, .int .i64 a, .int .i64 l, .int .i64 m, .slice a1 zs.length c1, .slice a2 bs.length c2, .slice (some ⟨gP, 0, none⟩) os.length os.length, .slice none 0 0, .int .i64 0, .slice none 0 0, .slice none 0 0] 0 y4).symm), nKP, nLP⟩
      generalize (((((((((((((y4.setCell ⟨X, 0, none⟩ (.int .i64 n)).setCell ⟨X, 1, none⟩ (.int .i64 f)).setCell ⟨X, 2, none⟩ (.int .i64 p)).setCell ⟨X, 3, none⟩ (.int .i64 a)).setCell ⟨X, 4, none⟩ (.int .i64 l)).setCell ⟨X, 5, none⟩ (.int .i64 m)).setCell ⟨X, 6, none⟩ (.slice a1 zs.length c1)).setCell ⟨X, 7, none⟩ (.slice a2 bs.length c2)).setCell ⟨X, 8, none⟩ (.slice (some ⟨gP, 0, none⟩) os.length os.length)).setCell ⟨X, 9, none⟩ (.slice none 0 0)).setCell ⟨X, 10, none⟩ (.int .i64 0)).setCell ⟨X, 11, none⟩ (.slice none 0 0)).setCell ⟨X, 12, none⟩ (.slice none 0 0)) = y5 at NE ⊢
      replace NV := NE.V
      try dsimp only
      refine hK.out _ _ ⟨NV.R.cell 0 rfl, NV.R.cell 1 rfl, NV.R.cell 2 rfl, NV.R.cell 3 rfl, NV.R.cell 4 rfl, NV.R.cell 5 rfl⟩ ?_; clear hK K hHeld; intro hHeld; try simp only [Act.put, List.setIfInBounds_toArray, List.set_cons_zero, List.set_cons_succ]
      refine wpAnyH_done (by kernel_rfl) ?_ _
      refine NoPanic.normal ?_
      clear hHeld
      go_wp2_with fail
      go_meet
      case rel => exact ⟨X, a1, c1, a2, c2, gP, rfl, NE⟩
  case rest =>
    obtain ⟨X, a1, c1, a2, c2, gP, rfl, HE⟩ := hcut
    have NE := HE.out
    clear HE NV
    have e0 := NE.C.cell 0 rfl
    have e1 := NE.C.cell 1 rfl
    have e2 := NE.C.cell 2 rfl
    have e3 := NE.C.cell 3 rfl
    have e4 := NE.C.cell 4 rfl
    have e5 := NE.C.cell 5 rfl
    have e6 := NE.C.cell 6 rfl
    have e7 := NE.C.cell 7 rfl
    have e8 := NE.C.cell 8 rfl
    have e9 := NE.C.cell 9 rfl
    have e10 := NE.C.cell 10 rfl
    have e11 := NE.C.cell 11 rfl
    have e12 := NE.C.cell 12 rfl
    go_wp2_with fail
    clear e0 e1 e2 e3 e4 e5 e6 e7 e8 e9 e10 e11 e12
    refine (courtI n f p a l m zs os bs a1 a2 (some ⟨gP, 0, none⟩) c1 c2 os.length _ (own_rowI NE.K) (own_rowB NE.L) (peers_room NE.P.lt NE.P.R) h1 h2 h3).mono ?_
    rintro e w9 ⟨rfl, b9⟩
    replace NE := NE.below b9
    clear b9
    have hszw := NE.V.sz
    cases hN : NO n f p a l m zs bs os with
    | false =>
      have HN := hid hN
      clear hN
      have d0 := NE.V.Z.cell 0 rfl
      have d1 := NE.V.Z.cell 1 rfl
      have d2 := NE.V.Z.cell 2 rfl
      have d3 := NE.V.Z.cell 3 rfl
      have d4 := NE.V.Z.cell 4 rfl
      have d5 := NE.V.Z.cell 5 rfl
      have d6 := NE.V.Z.cell 6 rfl
      have d7 := NE.V.Z.cell 7 rfl
      have d8 := NE.V.Z.cell 8 rfl
      have d9 := NE.V.Z.cell 9 rfl
      have d10 := NE.V.Z.cell 10 rfl
      have d11 := NE.V.Z.cell 11 rfl
      have d12 := NE.V.Z.cell 12 rfl
      have f0 := NE.V.Z.froz 0 rfl
      have f1 := NE.V.Z.froz 1 rfl
      have f2 := NE.V.Z.froz 2 rfl
      have f3 := NE.V.Z.froz 3 rfl
      have f4 := NE.V.Z.froz 4 rfl
      have f5 := NE.V.Z.froz 5 rfl
      have f6 := NE.V.Z.froz 6 rfl
      have f7 := NE.V.Z.froz 7 rfl
      have f8 := NE.V.Z.froz 8 rfl
      have f9 := NE.V.Z.froz 9 rfl
      have f10 := NE.V.Z.froz 10 rfl
      have f11 := NE.V.Z.froz 11 rfl
      have f12 := NE.V.Z.froz 12 rfl
      go_wp2_with fail
      clear d0 f0 d1 f1 d2 f2 d3 f3 d4 f4 d5 f5 d6 f6 d7 f7 d8 f8 d9 f9 d10 f10 d11 f11 d12 f12
      have bz : Below w.heap.size w (((((((((((((w9.setCell ⟨(w.heap.size + 1), 0, none⟩ (.int .i64 0)).setCell ⟨(w.heap.size + 1), 1, none⟩ (.int .i64 0)).setCell ⟨(w.heap.size + 1), 2, none⟩ (.int .i64 0)).setCell ⟨(w.heap.size + 1), 3, none⟩ (.int .i64 0)).setCell ⟨(w.heap.size + 1), 4, none⟩ (.int .i64 0)).setCell ⟨(w.heap.size + 1), 5, none⟩ (.int .i64 0)).setCell ⟨(w.heap.size + 1), 6, none⟩ (.slice none 0 0)).setCell ⟨(w.heap.size + 1), 7, none⟩ (.slice none 0 0)).setCell ⟨(w.heap.size + 1), 8, none⟩ (.slice none 0 0)).setCell ⟨(w.heap.size + 1), 9, none⟩ (.slice none 0 0)).setCell ⟨(w.heap.size + 1), 10, none⟩ (.int .i64 0)).setCell ⟨(w.heap.size + 1), 11, none⟩ (.slice none 0 0)).setCell ⟨(w.heap.size + 1), 12, none⟩ (.slice none 0 0)) := sets_below (by omega) [.int .i64 0, .int .i64 0, .int .i64 0, .int .i64 0, .int .i64 0, .int .i64 0, .slice none 0 0, .slice none 0 0, .slice none 0 0, .slice none 0 0, .int .i64 0, .slice none 0 0, .slice none 0 0] 0 w9 NE.V.B
      have RZ : Room (((((((((((((w9.setCell ⟨(w.heap.size + 1), 0, none⟩ (.int .i64 0)).setCell ⟨(w.heap.size + 1), 1, none⟩ (.int .i64 0)).setCell ⟨(w.heap.size + 1), 2, none⟩ (.int .i64 0)).setCell ⟨(w.heap.size + 1), 3, none⟩ (.int .i64 0)).setCell ⟨(w.heap.size + 1), 4, none⟩ (.int .i64 0)).setCell ⟨(w.heap.size + 1), 5, none⟩ (.int .i64 0)).setCell ⟨(w.heap.size + 1), 6, none⟩ (.slice none 0 0)).setCell ⟨(w.heap.size + 1), 7, none⟩ (.slice none 0 0)).setCell ⟨(w.heap.size + 1), 8, none⟩ (.slice none 0 0)).setCell ⟨(w.heap.size + 1), 9, none⟩ (.slice none 0 0)).setCell ⟨(w.heap.size + 1), 10, none⟩ (.int .i64 0)).setCell ⟨(w.heap.size + 1), 11, none⟩ (.slice none 0 0)).setCell ⟨(w.heap.size + 1), 12, none⟩ (.slice none 0 0)) (w.heap.size + 1) [.int .i64 0, .int .i64 0, .int .i64 0, .int .i64 0, .int .i64 0, .int .i64 0, .slice none 0 0, .slice none 0 0, .slice none 0 0, .slice none 0 0, .int .i64 0, .slice none 0 0, .slice none 0 0] := sets_room [.int .i64 0, .int .i64 0, .int .i64 0, .int .i64 0, .int .i64 0, .int .i64 0, .slice none 0 0, .slice none 0 0, .slice none 0 0, .slice none 0 0, .int .i64 0, .slice none 0 0, .slice none 0 0] 0 w9 [] [.int .i64 0, .int .i64 0, .int .i64 0, .int .i64 0, .int .i64 0, .int .i64 0, .slice none 0 0, .slice none 0 0, .slice none 0 0, .slice none 0 0, .int .i64 0, .slice none 0 0, .slice none 0 0] NE.V.Z rfl rfl
      generalize (((((((((((((w9.setCell ⟨(w.heap.size + 1), 0, none⟩ (.int .i64 0)).setCell ⟨(w.heap.size + 1), 1, none⟩ (.int .i64 0)).setCell ⟨(w.heap.size + 1), 2, none⟩ (.int .i64 0)).setCell ⟨(w.heap.size + 1), 3, none⟩ (.int .i64 0)).setCell ⟨(w.heap.size + 1), 4, none⟩ (.int .i64 0)).setCell ⟨(w.heap.size + 1), 5, none⟩ (.int .i64 0)).setCell ⟨(w.heap.size + 1), 6, none⟩ (.slice none 0 0)).setCell ⟨(w.heap.size + 1), 7, none⟩ (.slice none 0 0)).setCell ⟨(w.heap.size + 1), 8, none⟩ (.slice none 0 0)).setCell ⟨(w.heap.size + 1), 9, none⟩ (.slice none 0 0)).setCell ⟨(w.heap.size + 1), 10, none⟩ (.int .i64 0)).setCell ⟨(w.heap.size + 1), 11, none⟩ (.slice none 0 0)).setCell ⟨(w.heap.size + 1), 12, none⟩ (.slice none 0 0)) = wz at bz RZ  ⊢
      refine bodyPost_ret (v := .tuple #[Z13, .bool false]) (ret13v Tryz.results10 rfl rfl RZ) rfl ⟨.inr ⟨HN.out, rfl⟩, bz⟩
    | true =>
      have HN := hid hN
      have hno := no_of hN
      have hpos : 0 < zs.length ∧ 0 < bs.length := by have := hno.1.1; omega
      obtain ⟨gK, rfl⟩ := own_some NE.K hpos.1
      obtain ⟨gL, rfl⟩ := own_some NE.L hpos.2
      clear hN hno hpos
      have e0 := NE.C.cell 0 rfl
      have e1 := NE.C.cell 1 rfl
      have e2 := NE.C.cell 2 rfl
      have e3 := NE.C.cell 3 rfl
      have e4 := NE.C.cell 4 rfl
      have e5 := NE.C.cell 5 rfl
      have e6 := NE.C.cell 6 rfl
      have e7 := NE.C.cell 7 rfl
      have e8 := NE.C.cell 8 rfl
      have e9 := NE.C.cell 9 rfl
      have e10 := NE.C.cell 10 rfl
      have e11 := NE.C.cell 11 rfl
      have e12 := NE.C.cell 12 rfl
      have d0 := NE.V.Z.cell 0 rfl
      have d1 := NE.V.Z.cell 1 rfl
      have d2 := NE.V.Z.cell 2 rfl
      have d3 := NE.V.Z.cell 3 rfl
      have d4 := NE.V.Z.cell 4 rfl
      have d5 := NE.V.Z.cell 5 rfl
      have d6 := NE.V.Z.cell 6 rfl
      have d7 := NE.V.Z.cell 7 rfl
      have d8 := NE.V.Z.cell 8 rfl
      have d9 := NE.V.Z.cell 9 rfl
      have d10 := NE.V.Z.cell 10 rfl
      have d11 := NE.V.Z.cell 11 rfl
      have d12 := NE.V.Z.cell 12 rfl
      have f0 := NE.V.Z.froz 0 rfl
      have f1 := NE.V.Z.froz 1 rfl
      have f2 := NE.V.Z.froz 2 rfl
      have f3 := NE.V.Z.froz 3 rfl
      have f4 := NE.V.Z.froz 4 rfl
      have f5 := NE.V.Z.froz 5 rfl
      have f6 := NE.V.Z.froz 6 rfl
      have f7 := NE.V.Z.froz 7 rfl
      have f8 := NE.V.Z.froz 8 rfl
      have f9 := NE.V.Z.froz 9 rfl
      have f10 := NE.V.Z.froz 10 rfl
      have f11 := NE.V.Z.froz 11 rfl
      have f12 := NE.V.Z.froz 12 rfl
      go_wp2_with fail
      clear e0 e1 e2 e3 e4 e5 e6 e7 e8 e9 e10 e11 e12
      clear d0 f0 d1 f1 d2 f2 d3 f3 d4 f4 d5 f5 d6 f6 d7 f7 d8 f8 d9 f9 d10 f10 d11 f11 d12 f12
      have bz : Below w.heap.size w (((((((((((((w9.setCell ⟨(w.heap.size + 1), 0, none⟩ (.int .i64 n)).setCell ⟨(w.heap.size + 1), 1, none⟩ (.int .i64 f)).setCell ⟨(w.heap.size + 1), 2, none⟩ (.int .i64 p)).setCell ⟨(w.heap.size + 1), 3, none⟩ (.int .i64 a)).setCell ⟨(w.heap.size + 1), 4, none⟩ (.int .i64 l)).setCell ⟨(w.heap.size + 1), 5, none⟩ (.int .i64 m)).setCell ⟨(w.heap.size + 1), 6, none⟩ (.slice (some ⟨gK, 0, none⟩) zs.length c1)).setCell ⟨(w.heap.size + 1), 7, none⟩ (.slice (some ⟨gL, 0, none⟩) bs.length c2)).setCell ⟨(w.heap.size + 1), 8, none⟩ (.slice (some ⟨gP, 0, none⟩) os.length os.length)).setCell ⟨(w.heap.size + 1), 9, none⟩ (.slice none 0 0)).setCell ⟨(w.heap.size + 1), 10, none⟩ (.int .i64 0)).setCell ⟨(w.heap.size + 1), 11, none⟩ (.slice none 0 0)).setCell ⟨(w.heap.size + 1), 12, none⟩ (.slice none 0 0)) := sets_below (by omega) [.int .i64 n, .int .i64 f, .int .i64 p, .int .i64 a, .int .i64 l, .int .i64 m, .slice (some ⟨gK, 0, none⟩) zs.length c1, .slice (some ⟨gL, 0, none⟩) bs.length c2, .slice (some ⟨gP, 0, none⟩) os.length os.length, .slice none 0 0, .int .i64 0, .slice none 0 0, .slice none 0 0] 0 w9 NE.V.B
      have RZ : Room (((((((((((((w9.setCell ⟨(w.heap.size + 1), 0, none⟩ (.int .i64 n)).setCell ⟨(w.heap.size + 1), 1, none⟩ (.int .i64 f)).setCell ⟨(w.heap.size + 1), 2, none⟩ (.int .i64 p)).setCell ⟨(w.heap.size + 1), 3, none⟩ (.int .i64 a)).setCell ⟨(w.heap.size + 1), 4, none⟩ (.int .i64 l)).setCell ⟨(w.heap.size + 1), 5, none⟩ (.int .i64 m)).setCell ⟨(w.heap.size + 1), 6, none⟩ (.slice (some ⟨gK, 0, none⟩) zs.length c1)).setCell ⟨(w.heap.size + 1), 7, none⟩ (.slice (some ⟨gL, 0, none⟩) bs.length c2)).setCell ⟨(w.heap.size + 1), 8, none⟩ (.slice (some ⟨gP, 0, none⟩) os.length os.length)).setCell ⟨(w.heap.size + 1), 9, none⟩ (.slice none 0 0)).setCell ⟨(w.heap.size + 1), 10, none⟩ (.int .i64 0)).setCell ⟨(w.heap.size + 1), 11, none⟩ (.slice none 0 0)).setCell ⟨(w.heap.size + 1), 12, none⟩ (.slice none 0 0)) (w.heap.size + 1) [.int .i64 n, .int .i64 f, .int .i64 p, .int .i64 a, .int .i64 l, .int .i64 m, .slice (some ⟨gK, 0, none⟩) zs.length c1, .slice (some ⟨gL, 0, none⟩) bs.length c2, .slice (some ⟨gP, 0, none⟩) os.length os.length, .slice none 0 0, .int .i64 0, .slice none 0 0, .slice none 0 0] := sets_room [.int .i64 n, .int .i64 f, .int .i64 p, .int .i64 a, .int .i64 l, .int .i64 m, .slice (some ⟨gK, 0, none⟩) zs.length c1, .slice (some ⟨gL, 0, none⟩) bs.length c2, .slice (some ⟨gP, 0, none⟩) os.length os.length, .slice none 0 0, .int .i64 0, .slice none 0 0, .slice none 0 0] 0 w9 [] [.int .i64 0, .int .i64 0, .int .i64 0, .int .i64 0, .int .i64 0, .int .i64 0, .slice none 0 0, .slice none 0 0, .slice none 0 0, .slice none 0 0, .int .i64 0, .slice none 0 0, .slice none 0 0] NE.V.Z rfl rfl
      have NM : Nm (((((((((((((w9.setCell ⟨(w.heap.size + 1), 0, none⟩ (.int .i64 n)).setCell ⟨(w.heap.size + 1), 1, none⟩ (.int .i64 f)).setCell ⟨(w.heap.size + 1), 2, none⟩ (.int .i64 p)).setCell ⟨(w.heap.size + 1), 3, none⟩ (.int .i64 a)).setCell ⟨(w.heap.size + 1), 4, none⟩ (.int .i64 l)).setCell ⟨(w.heap.size + 1), 5, none⟩ (.int .i64 m)).setCell ⟨(w.heap.size + 1), 6, none⟩ (.slice (some ⟨gK, 0, none⟩) zs.length c1)).setCell ⟨(w.heap.size + 1), 7, none⟩ (.slice (some ⟨gL, 0, none⟩) bs.length c2)).setCell ⟨(w.heap.size + 1), 8, none⟩ (.slice (some ⟨gP, 0, none⟩) os.length os.length)).setCell ⟨(w.heap.size + 1), 9, none⟩ (.slice none 0 0)).setCell ⟨(w.heap.size + 1), 10, none⟩ (.int .i64 0)).setCell ⟨(w.heap.size + 1), 11, none⟩ (.slice none 0 0)).setCell ⟨(w.heap.size + 1), 12, none⟩ (.slice none 0 0)) (w.heap.size + 2) gK gL gP zs bs os := by
        have kK := own_room NE.K
        have kL := own_room NE.L
        refine ⟨kK.keep (sets_heap (by have := kK.lo; omega) [.int .i64 n, .int .i64 f, .int .i64 p, .int .i64 a, .int .i64 l, .int .i64 m, .slice (some ⟨gK, 0, none⟩) zs.length c1, .slice (some ⟨gL, 0, none⟩) bs.length c2, .slice (some ⟨gP, 0, none⟩) os.length os.length, .slice none 0 0, .int .i64 0, .slice none 0 0, .slice none 0 0] 0 w9) (Nat.le_of_eq (sets_size _ [.int .i64 n, .int .i64 f, .int .i64 p, .int .i64 a, .int .i64 l, .int .i64 m, .slice (some ⟨gK, 0, none⟩) zs.length c1, .slice (some ⟨gL, 0, none⟩) bs.length c2, .slice (some ⟨gP, 0, none⟩) os.length os.length, .slice none 0 0, .int .i64 0, .slice none 0 0, .slice none 0 0] 0 w9).symm), kL.keep (sets_heap (by have := kL.lo; omega) [.int .i64 n, .int .i64 f, .int .i64 p, .int .i64 a, .int .i64 l, .int .i64 m, .slice (some ⟨gK, 0, none⟩) zs.length c1, .slice (some ⟨gL, 0, none⟩) bs.length c2, .slice (some ⟨gP, 0, none⟩) os.length os.length, .slice none 0 0, .int .i64 0, .slice none 0 0, .slice none 0 0] 0 w9) (Nat.le_of_eq (sets_size _ [.int .i64 n, .int .i64 f, .int .i64 p, .int .i64 a, .int .i64 l, .int .i64 m, .slice (some ⟨gK, 0, none⟩) zs.length c1, .slice (some ⟨gL, 0, none⟩) bs.length c2, .slice (some ⟨gP, 0, none⟩) os.length os.length, .slice none 0 0, .int .i64 0, .slice none 0 0, .slice none 0 0] 0 w9).symm), NE.P.keep (sets_heap (by have := NE.P.lo; omega) [.int .i64 n, .int .i64 f, .int .i64 p, .int .i64 a, .int .i64 l, .int .i64 m, .slice (some ⟨gK, 0, none⟩) zs.length c1, .slice (some ⟨gL, 0, none⟩) bs.length c2, .slice (some ⟨gP, 0, none⟩) os.length os.length, .slice none 0 0, .int .i64 0, .slice none 0 0, .slice none 0 0] 0 w9) (Nat.le_of_eq (sets_size _ [.int .i64 n, .int .i64 f, .int .i64 p, .int .i64 a, .int .i64 l, .int .i64 m, .slice (some ⟨gK, 0, none⟩) zs.length c1, .slice (some ⟨gL, 0, none⟩) bs.length c2, .slice (some ⟨gP, 0, none⟩) os.length os.length, .slice none 0 0, .int .i64 0, .slice none 0 0, .slice none 0 0] 0 w9).symm), Ct.own_ne NE.K rfl (Ct.own_ty NE.L rfl) (by decide), Nat.ne_of_lt (NE.kp gK rfl), Nat.ne_of_lt (NE.lp gL rfl)⟩
      generalize (((((((((((((w9.setCell ⟨(w.heap.size + 1), 0, none⟩ (.int .i64 n)).setCell ⟨(w.heap.size + 1), 1, none⟩ (.int .i64 f)).setCell ⟨(w.heap.size + 1), 2, none⟩ (.int .i64 p)).setCell ⟨(w.heap.size + 1), 3, none⟩ (.int .i64 a)).setCell ⟨(w.heap.size + 1), 4, none⟩ (.int .i64 l)).setCell ⟨(w.heap.size + 1), 5, none⟩ (.int .i64 m)).setCell ⟨(w.heap.size + 1), 6, none⟩ (.slice (some ⟨gK, 0, none⟩) zs.length c1)).setCell ⟨(w.heap.size + 1), 7, none⟩ (.slice (some ⟨gL, 0, none⟩) bs.length c2)).setCell ⟨(w.heap.size + 1), 8, none⟩ (.slice (some ⟨gP, 0, none⟩) os.length os.length)).setCell ⟨(w.heap.size + 1), 9, none⟩ (.slice none 0 0)).setCell ⟨(w.heap.size + 1), 10, none⟩ (.int .i64 0)).setCell ⟨(w.heap.size + 1), 11, none⟩ (.slice none 0 0)).setCell ⟨(w.heap.size + 1), 12, none⟩ (.slice none 0 0)) = wz at bz RZ NM ⊢
      refine bodyPost_ret (v := .tuple #[V13 n f p a l m (.slice (some ⟨gK, 0, none⟩) zs.length c1) (.slice (some ⟨gL, 0, none⟩) bs.length c2) (.slice (some ⟨gP, 0, none⟩) os.length os.length), .bool true]) (ret13v Tryz.results10 rfl rfl RZ) rfl ⟨.inl ⟨HN.out, gK, c1, gL, c2, gP, os.length, rfl, NM.low (by omega)⟩, bz⟩

end Go.Proofs.YtimakfokgcnklaaGreat.Nw
