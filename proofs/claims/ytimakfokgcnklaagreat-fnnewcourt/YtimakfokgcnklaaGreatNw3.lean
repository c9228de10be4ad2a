/-
  spec.NewCourt at whatever arguments.
-/
import Derived.Test.YtimakfokgcnklaaGreatNw2
import Derived.Test.YtimakfokgcnklaaGreatTk
namespace Go.Proofs.YtimakfokgcnklaaGreat.Nw
open Go.ChangeShapes Go.WideShapes Go.ChangeAt Go.RowKit
open Ls (el Row)
open Rm (Room)
open Rd (Flags)
open Ow (ints Own)
open Ct (bools OwnB OwnP pcs Peers CT Ty sets_below sets_room sets_heap sets_size info_peer info_bool one_peer)
open Mi (hid)
open Ns (PD pd PeersAt ParcelsAt)
open Cd (CD CO RO RK PK)
open Sb (S3 Row3)
open Sp (retb)
set_option linter.unusedVariables false
set_option linter.unusedSimpArgs false

/-- A court's cells X beside, its keys, who lies. -/
structure Nf (w wr : World) (n f p a l m : Int) (X : Nat) (a1 : Option Addr) (c1 : Nat) (a2 : Option Addr) (c2 : Nat) (zs : List Int) (bs : List Bool) (P : Value) : Prop where
  V : Nv w wr n f p a l m
  C : Room wr X [.int .i64 n, .int .i64 f, .int .i64 p, .int .i64 a, .int .i64 l, .int .i64 m, .slice a1 zs.length c1, .slice a2 bs.length c2, P, .slice none 0 0, .int .i64 0, .slice none 0 0, .slice none 0 0]
  K : wr.ownsRow (w.heap.size + 2) 2 1 (.slice a1 zs.length c1) zs.length (ints zs)
  L : wr.ownsRow (w.heap.size + 2) 4 1 (.slice a2 bs.length c2) bs.length (bools bs)
  x : w.heap.size + 2 ≤ X
  kx : ∀ g, (Value.slice a1 zs.length c1).ownBlock = some g → g ≠ X
  lx : ∀ g, (Value.slice a2 bs.length c2).ownBlock = some g → g ≠ X
theorem Nf.keep {w w1 : World} {n f p a l m : Int} {X c1 c2 : Nat} {a1 a2 : Option Addr} {zs : List Int} {bs : List Bool} {P : Value} {s : Nat} {w2 : World} (h : Nf w w1 n f p a l m X a1 c1 a2 c2 zs bs P) (b : Below s w1 w2) (hs : w.heap.size + 2 ≤ s ∧ X < s ∧ (∀ g, (Value.slice a1 zs.length c1).ownBlock = some g → g < s) ∧ ∀ g, (Value.slice a2 bs.length c2).ownBlock = some g → g < s) : Nf w w2 n f p a l m X a1 c1 a2 c2 zs bs P :=
  ⟨h.V.keep (b.mono hs.1), h.C.block (b.block _ hs.2.1), Ct.own_keep h.K fun g hg => b.block _ (hs.2.2.1 g hg), Ct.own_keep h.L fun g hg => b.block _ (hs.2.2.2 g hg), h.x, h.kx, h.lx⟩
theorem Nf.lt {w w1 : World} {n f p a l m : Int} {X c1 c2 : Nat} {a1 a2 : Option Addr} {zs : List Int} {bs : List Bool} {P : Value} (h : Nf w w1 n f p a l m X a1 c1 a2 c2 zs bs P) : w.heap.size + 2 ≤ w1.heap.size ∧ X < w1.heap.size ∧ (∀ g, (Value.slice a1 zs.length c1).ownBlock = some g → g < w1.heap.size) ∧ ∀ g, (Value.slice a2 bs.length c2).ownBlock = some g → g < w1.heap.size :=
  ⟨h.V.sz, h.C.lt (by simp), fun g hg => (Ct.own_lt h.K hg).2, fun g hg => (Ct.own_lt h.L hg).2⟩
theorem Nf.below {w w1 : World} {n f p a l m : Int} {X c1 c2 : Nat} {a1 a2 : Option Addr} {zs : List Int} {bs : List Bool} {P : Value} {w2 : World} (h : Nf w w1 n f p a l m X a1 c1 a2 c2 zs bs P) (b : Below w1.heap.size w1 w2) : Nf w w2 n f p a l m X a1 c1 a2 c2 zs bs P := h.keep b h.lt
theorem Nf.put {w w1 : World} {n f p a l m : Int} {X c1 c2 : Nat} {a1 a2 : Option Addr} {zs : List Int} {bs : List Bool} {P : Value} (h : Nf w w1 n f p a l m X a1 c1 a2 c2 zs bs P) (V : Value) : Nf w (w1.setCell ⟨X, 8, none⟩ V) n f p a l m X a1 c1 a2 c2 zs bs V :=
  have b : Below (w.heap.size + 2) w1 (w1.setCell ⟨X, 8, none⟩ V) := (Below.refl _ _).setCell (p := ⟨X, 8, none⟩) h.x V
  ⟨h.V.keep b, h.C.set 8 V, Ct.own_keep h.K fun g hg => Below.heap_setCell _ _ _ _ (by have := h.kx g hg; simp; omega), Ct.own_keep h.L fun g hg => Below.heap_setCell _ _ _ _ (by have := h.lx g hg; simp; omega), h.x, h.kx, h.lx⟩

set_option maxHeartbeats 16000000 in
set_option maxRecDepth 100000 in
theorem s_NewCourt (n f p a l m : Int) (zs os : List Int) (bs : List Bool) (aK aO aL : Option Addr) (cK cO cL : Nat) (w : World) (rK : Row w w.heap.size aK zs.length zs) (rO : Row w w.heap.size aO os.length os) (rL : Flags w w.heap.size aL bs.length bs) (h1 : zs.length ≤ 1048576) (h2 : bs.length ≤ 1048576) (h3 : os.length ≤ 1048576) :
    Calls Tryz.prog 11 #[.agg #[.int .i64 n, .int .i64 f, .int .i64 p, .int .i64 a, .int .i64 l, .int .i64 m], .slice aK zs.length cK, .slice aO os.length cO, .slice aL bs.length cL] w fun e w' => ((NO n f p a l m zs bs os = true ∧ ∃ gK kK gL kL gP kP, e = .returned (.tuple #[V13 n f p a l m (.slice (some ⟨gK, 0, none⟩) zs.length kK) (.slice (some ⟨gL, 0, none⟩) bs.length kL) (.slice (some ⟨gP, 0, none⟩) os.length kP), .bool true]) ∧ Nm w' w.heap.size gK gL gP zs bs os) ∨ (NO n f p a l m zs bs os = false ∧ e = .returned (.tuple #[Z13, .bool false]))) ∧ Below w.heap.size w w' := by
  obtain ⟨i0, hi0, hz0, hz1, hz2⟩ := info_parts info_bool
  have NV : Nv w ((w.alloc (.cells #[.int .i64 n, .int .i64 f, .int .i64 p, .int .i64 a, .int .i64 l, .int .i64 m] 25)).alloc (.cells #[.int .i64 0, .int .i64 0, .int .i64 0, .int .i64 0, .int .i64 0, .int .i64 0, .slice none 0 0, .slice none 0 0, .slice none 0 0, .slice none 0 0, .int .i64 0, .slice none 0 0, .slice none 0 0] 35)) n f p a l m := ⟨(Room.new w [.int .i64 n, .int .i64 f, .int .i64 p, .int .i64 a, .int .i64 l, .int .i64 m] 25).alloc _, Room.at _ [.int .i64 0, .int .i64 0, .int .i64 0, .int .i64 0, .int .i64 0, .int .i64 0, .slice none 0 0, .slice none 0 0, .slice none 0 0, .slice none 0 0, .int .i64 0, .slice none 0 0, .slice none 0 0] 35 _ (by simp), ((Below.refl w.heap.size w).alloc (Nat.le_refl _) _).alloc (by simp) _, by simp⟩
  go_enter Tryz.func11, Tryz.ntmps11
  go_wp2_with fail
  generalize (w.alloc (.cells #[.int .i64 n, .int .i64 f, .int .i64 p, .int .i64 a, .int .i64 l, .int .i64 m] 25)).alloc (.cells #[.int .i64 0, .int .i64 0, .int .i64 0, .int .i64 0, .int .i64 0, .int .i64 0, .slice none 0 0, .slice none 0 0, .slice none 0 0, .slice none 0 0, .int .i64 0, .slice none 0 0, .slice none 0 0] 35) = w1 at NV ⊢
  replace NV := NV.below (Below.refl _ _).drew
  go_cut [10] from 12 (fun p10 wc => ∃ (X : Nat) (a1 : Option Addr) (c1 : Nat) (a2 : Option Addr) (c2 : Nat), p10 = .pointer (some ⟨X, 0, none⟩) ∧ Hid (Nf w wc n f p a l m X a1 c1 a2 c2 zs bs (.slice none 0 0)))
  case first =>
    refine wp_region_noPanic ?_
    refine wp_region_held_drew (S := (fun w' => w'.cell? ⟨w.heap.size, 0, none⟩ = some (.int .i64 n) ∧ w'.cell? ⟨w.heap.size, 1, none⟩ = some (.int .i64 f) ∧ w'.cell? ⟨w.heap.size, 2, none⟩ = some (.int .i64 p) ∧ w'.cell? ⟨w.heap.size, 3, none⟩ = some (.int .i64 a) ∧ w'.cell? ⟨w.heap.size, 4, none⟩ = some (.int .i64 l) ∧ w'.cell? ⟨w.heap.size, 5, none⟩ = some (.int .i64 m))) (by kernel_rfl) ⟨NV.R.cell 0 rfl, NV.R.cell 1 rfl, NV.R.cell 2 rfl, NV.R.cell 3 rfl, NV.R.cell 4 rfl, NV.R.cell 5 rfl⟩ (fun hHeld => ?_)
    generalize w1.drew = y0 at hHeld NV ⊢
    refine Tk.W 0 (some 12) (.load 25 (.tmp 4)) 25 none ?_
    refine Tk.W 1 (some 13) (.move (.tmp 1)) 26 none ?_
    refine Tk.W 4 (some 16) (.move (.tmp 3)) 27 none ?_
    refine wpAnyH_ready (rs := [2, 3, 7]) (by kernel_rfl) (by simp) ?_
    refine (AllReadyH.cons (o := ⟨some 14, .call ⟨.value (.func 46), #[.tmp 13], #[26]⟩, 26, _, _, none⟩) rfl (fun K hK => ?_) (AllReadyH.cons (o := ⟨some 15, .buildSlice 27 0 #[], 27, _, _, none⟩) rfl (fun K hK => ?_) (AllReadyH.cons (o := ⟨some 10, .alloc 35, 0, _, _, none⟩) rfl (fun K hK => ?_) AllReadyH.nil)))
    · go_simp
      refine (l1Copy aK zs.length cK zs _ ((rK.later NV.B (Nat.le_refl _)).more NV.B.size) h1).mono ?_
      rintro e y1 ⟨⟨gk0, c1, rfl, oK⟩, bq4⟩
      obtain ⟨a1, ha1⟩ : ∃ a : Option Addr, a = some ⟨gk0, 0, none⟩ := ⟨_, rfl⟩
      rw [← ha1]
      replace oK := Ct.own_low oK NV.sz
      replace oK : y1.ownsRow (w.heap.size + 2) 2 1 (.slice a1 zs.length c1) zs.length (ints zs) := by rw [ha1]; exact oK
      clear ha1
      replace NV := NV.below bq4
      clear bq4
      try dsimp only
      refine hK.out _ _ ⟨NV.R.cell 0 rfl, NV.R.cell 1 rfl, NV.R.cell 2 rfl, NV.R.cell 3 rfl, NV.R.cell 4 rfl, NV.R.cell 5 rfl⟩ ?_; clear hK K hHeld; intro hHeld; try simp only [Act.put, List.setIfInBounds_toArray, List.set_cons_zero, List.set_cons_succ]
      refine wpAnyH_ready (rs := [3, 7]) (by kernel_rfl) (by simp) ?_
      refine (AllReadyH.cons (o := ⟨some 15, .buildSlice 27 0 #[], 27, _, _, none⟩) rfl (fun K hK => ?_) (AllReadyH.cons (o := ⟨some 10, .alloc 35, 0, _, _, none⟩) rfl (fun K hK => ?_) AllReadyH.nil))
      · go_simp
        have b3 := (Below.refl y1.heap.size y1).alloc (Nat.le_refl _) (.cells #[] 4)
        have hE : (y1.alloc (.cells #[] 4)).ownsRow (w.heap.size + 2) 4 1 (.slice (some ⟨y1.heap.size, 0, none⟩) 0 0) 0 [] := World.ownsRow_made y1 #[] 0 NV.sz (by unfold maxLen; omega) rfl
        replace oK := Ct.own_below oK b3
        replace NV := NV.below b3
        obtain ⟨gE, hgE⟩ : ∃ gE, gE = y1.heap.size := ⟨_, rfl⟩
        rw [← hgE] at hE ⊢
        generalize y1.alloc (.cells #[] 4) = y2 at hE NV oK ⊢
        clear hgE b3
        try dsimp only
        refine hK.out _ _ ⟨NV.R.cell 0 rfl, NV.R.cell 1 rfl, NV.R.cell 2 rfl, NV.R.cell 3 rfl, NV.R.cell 4 rfl, NV.R.cell 5 rfl⟩ ?_; clear hK K hHeld; intro hHeld; try simp only [Act.put, List.setIfInBounds_toArray, List.set_cons_zero, List.set_cons_succ]
        refine wpAnyH_ready (rs := [5, 7]) (by kernel_rfl) (by simp) ?_
        refine (AllReadyH.cons (o := ⟨some 17, .call ⟨.builtin .append, #[.tmp 15, .tmp 16], #[27, 27]⟩, 27, _, _, none⟩) rfl (fun K hK => ?_) (AllReadyH.cons (o := ⟨some 10, .alloc 35, 0, _, _, none⟩) rfl (fun K hK => ?_) AllReadyH.nil))
        · have sz5 := NV.sz
          have lE := Ct.own_lt hE rfl
          refine step_own_any rfl (.tmp 15) (.tmp 16) 27 rfl (w.heap.size + 2) 4 i0 (.bool false) 1 1 Tryz.underlying27 hi0 hz0 hz1 hz2 rfl (by decide) _ 0 [] rfl hE aL bs.length cL (bools bs) rfl (by rw [Ct.bools_len]; omega) (src_bools ((rL.later NV.B (Nat.le_refl _)).more NV.B.size)) (Ct.oneb bs) (by unfold maxLen; omega) (by omega) (by omega) ?_
          intro v5 y3 hx5 hg5 hn5 ha5
          have TE := Ct.own_ty hE rfl
          rw [Nat.zero_add, List.nil_append] at hx5
          obtain ⟨gl0, c2, rfl, oL⟩ := Ct.ownb_of hx5 (Dg.no_nil hn5 rfl)
          obtain ⟨a2, ha2⟩ : ∃ a : Option Addr, a = some ⟨gl0, 0, none⟩ := ⟨_, rfl⟩
          replace oK := Ct.own_keep (w' := y3) oK fun g hg => hg5.block g (Ct.own_lt oK hg).2 (by intro e; exact Ct.own_ne oK hg TE (by decide) (Option.some.inj e))
          have bg5 : Below (w.heap.size + 2) y2 y3 := (Below.refl _ _).grown hg5 sz5 (by intro k hk; cases hk; exact lE.1)
          replace NV := NV.keep bg5
          rw [← ha2]
          replace oL : y3.ownsRow (w.heap.size + 2) 4 1 (.slice a2 bs.length c2) bs.length (bools bs) := by rw [ha2]; exact oL
          clear hx5 hg5 hn5 ha5 hE sz5 lE TE bg5 ha2
          try dsimp only
          refine hK.out _ _ ⟨NV.R.cell 0 rfl, NV.R.cell 1 rfl, NV.R.cell 2 rfl, NV.R.cell 3 rfl, NV.R.cell 4 rfl, NV.R.cell 5 rfl⟩ ?_; clear hK K hHeld; intro hHeld; try simp only [Act.put, List.setIfInBounds_toArray, List.set_cons_zero, List.set_cons_succ]
          refine Tk.W 6 (some 18) (.build 35 #[(0, .tmp 12), (1, .tmp 14), (2, .tmp 17)]) 35 none ?_
          refine Tk.R 7 (some 10) (.alloc 35) 0 none (fun K hK => ?_)
          go_simp
          have b8 := (Below.refl y3.heap.size y3).alloc (Nat.le_refl _) (.cells #[.int .i64 0, .int .i64 0, .int .i64 0, .int .i64 0, .int .i64 0, .int .i64 0, .slice none 0 0, .slice none 0 0, .slice none 0 0, .slice none 0 0, .int .i64 0, .slice none 0 0, .slice none 0 0] 35)
          have RC := Room.new y3 [.int .i64 0, .int .i64 0, .int .i64 0, .int .i64 0, .int .i64 0, .int .i64 0, .slice none 0 0, .slice none 0 0, .slice none 0 0, .slice none 0 0, .int .i64 0, .slice none 0 0, .slice none 0 0] 35
          have TC := Ty.new y3 35 #[.int .i64 0, .int .i64 0, .int .i64 0, .int .i64 0, .int .i64 0, .int .i64 0, .slice none 0 0, .slice none 0 0, .slice none 0 0, .slice none 0 0, .int .i64 0, .slice none 0 0, .slice none 0 0]
          have zX := NV.sz
          replace oK := Ct.own_below oK b8
          replace oL := Ct.own_below oL b8
          replace NV := NV.below b8
          obtain ⟨X, hX⟩ : ∃ X, X = y3.heap.size := ⟨_, rfl⟩
          rw [← hX] at RC TC zX ⊢
          generalize y3.alloc (.cells #[.int .i64 0, .int .i64 0, .int .i64 0, .int .i64 0, .int .i64 0, .int .i64 0, .slice none 0 0, .slice none 0 0, .slice none 0 0, .slice none 0 0, .int .i64 0, .slice none 0 0, .slice none 0 0] 35) = y4 at NV RC TC oK oL ⊢
          clear hX b8
          try dsimp only
          refine hK.out _ _ ⟨NV.R.cell 0 rfl, NV.R.cell 1 rfl, NV.R.cell 2 rfl, NV.R.cell 3 rfl, NV.R.cell 4 rfl, NV.R.cell 5 rfl⟩ ?_; clear hK K hHeld; intro hHeld; try simp only [Act.put, List.setIfInBounds_toArray, List.set_cons_zero, List.set_cons_succ]
          refine Tk.R 8 none (.store 35 (.tmp 10) (.tmp 18)) 0 none (fun K hK => ?_)
          have e0 := RC.cell 0 rfl
          have e1 := RC.cell 1 rfl
          have e2 := RC.cell 2 rfl
          have e3 := RC.cell 3 rfl
          have e4 := RC.cell 4 rfl
          have e5 := RC.cell 5 rfl
          have e6 := RC.cell 6 rfl
          have e7 := RC.cell 7 rfl
          have e8 := RC.cell 8 rfl
          have e9 := RC.cell 9 rfl
          have e10 := RC.cell 10 rfl
          have e11 := RC.cell 11 rfl
          have e12 := RC.cell 12 rfl
          have f0 := RC.froz 0 rfl
          have f1 := RC.froz 1 rfl
          have f2 := RC.froz 2 rfl
          have f3 := RC.froz 3 rfl
          have f4 := RC.froz 4 rfl
          have f5 := RC.froz 5 rfl
          have f6 := RC.froz 6 rfl
          have f7 := RC.froz 7 rfl
          have f8 := RC.froz 8 rfl
          have f9 := RC.froz 9 rfl
          have f10 := RC.froz 10 rfl
          have f11 := RC.froz 11 rfl
          have f12 := RC.froz 12 rfl
          go_simp
          clear e0 f0 e1 f1 e2 f2 e3 f3 e4 f4 e5 f5 e6 f6 e7 f7 e8 f8 e9 f9 e10 f10 e11 f11 e12 f12
          have NE : Nf w (((((((((((((y4.setCell ⟨X, 0, none⟩ (.int .i64 n)).setCell ⟨X, 1, none⟩ (.int .i64 f)).setCell ⟨X, 2, none⟩ (.int .i64 p)).setCell ⟨X, 3, none⟩ (.int .i64 a)).setCell ⟨X, 4, none⟩ (.int .i64 l)).setCell ⟨X, 5, none⟩ (.int .i64 m)).setCell ⟨X, 6, none⟩ (.slice a1 zs.length c1)).setCell ⟨X, 7, none⟩ (.slice a2 bs.length c2)).setCell ⟨X, 8, none⟩ (.slice none 0 0)).setCell ⟨X, 9, none⟩ (.slice none 0 0)).setCell ⟨X, 10, none⟩ (.int .i64 0)).setCell ⟨X, 11, none⟩ (.slice none 0 0)).setCell ⟨X, 12, none⟩ (.slice none 0 0)) n f p a l m X a1 c1 a2 c2 zs bs (.slice none 0 0) := ⟨NV.keep (sets_below zX [.int .i64 n, .int .i64 f, .int .i64 p, .int .i64 a, .int .i64 l, .int .i64 m, .slice a1 zs.length c1, .slice a2 bs.length c2, .slice none 0 0, .slice none 0 0, .int .i64 0, .slice none 0 0, .slice none 0 0] 0 y4 (Below.refl _ _)), sets_room [.int .i64 n, .int .i64 f, .int .i64 p, .int .i64 a, .int .i64 l, .int .i64 m, .slice a1 zs.length c1, .slice a2 bs.length c2, .slice none 0 0, .slice none 0 0, .int .i64 0, .slice none 0 0, .slice none 0 0] 0 y4 [] [.int .i64 0, .int .i64 0, .int .i64 0, .int .i64 0, .int .i64 0, .int .i64 0, .slice none 0 0, .slice none 0 0, .slice none 0 0, .slice none 0 0, .int .i64 0, .slice none 0 0, .slice none 0 0] RC rfl rfl, Ct.own_keep oK fun g hg => sets_heap (Ct.own_ne oK hg TC (by decide)) [.int .i64 n, .int .i64 f, .int .i64 p, .int .i64 a, .int .i64 l, .int .i64 m, .slice a1 zs.length c1, .slice a2 bs.length c2, .slice none 0 0, .slice none 0 0, .int .i64 0, .slice none 0 0, .slice none 0 0] 0 y4, Ct.own_keep oL fun g hg => sets_heap (Ct.own_ne oL hg TC (by decide)) [.int .i64 n, .int .i64 f, .int .i64 p, .int .i64 a, .int .i64 l, .int .i64 m, .slice a1 zs.length c1, .slice a2 bs.length c2, .slice none 0 0, .slice none 0 0, .int .i64 0, .slice none 0 0, .slice none 0 0] 0 y4, zX, fun g hg => Ct.own_ne oK hg TC (by decide), fun g hg => Ct.own_ne oL hg TC (by decide)⟩
          generalize (((((((((((((y4.setCell ⟨X, 0, none⟩ (.int .i64 n)).setCell ⟨X, 1, none⟩ (.int .i64 f)).setCell ⟨X, 2, none⟩ (.int .i64 p)).setCell ⟨X, 3, none⟩ (.int .i64 a)).setCell ⟨X, 4, none⟩ (.int .i64 l)).setCell ⟨X, 5, none⟩ (.int .i64 m)).setCell ⟨X, 6, none⟩ (.slice a1 zs.length c1)).setCell ⟨X, 7, none⟩ (.slice a2 bs.length c2)).setCell ⟨X, 8, none⟩ (.slice none 0 0)).setCell ⟨X, 9, none⟩ (.slice none 0 0)).setCell ⟨X, 10, none⟩ (.int .i64 0)).setCell ⟨X, 11, none⟩ (.slice none 0 0)).setCell ⟨X, 12, none⟩ (.slice none 0 0)) = y5 at NE ⊢
          replace NV := NE.V
          try dsimp only
          refine hK.out _ _ ⟨NV.R.cell 0 rfl, NV.R.cell 1 rfl, NV.R.cell 2 rfl, NV.R.cell 3 rfl, NV.R.cell 4 rfl, NV.R.cell 5 rfl⟩ ?_; clear hK K hHeld; intro hHeld; try simp only [Act.put, List.setIfInBounds_toArray, List.set_cons_zero, List.set_cons_succ]
          refine wpAnyH_done (by kernel_rfl) ?_ _
          refine NoPanic.normal ?_
          clear hHeld
          go_wp2_with fail
          go_meet
          case rel => exact ⟨X, a1, c1, a2, c2, rfl, NE⟩
        · go_simp
          have b8 := (Below.refl y2.heap.size y2).alloc (Nat.le_refl _) (.cells #[.int .i64 0, .int .i64 0, .int .i64 0, .int .i64 0, .int .i64 0, .int .i64 0, .slice none 0 0, .slice none 0 0, .slice none 0 0, .slice none 0 0, .int .i64 0, .slice none 0 0, .slice none 0 0] 35)
          have RC := Room.new y2 [.int .i64 0, .int .i64 0, .int .i64 0, .int .i64 0, .int .i64 0, .int .i64 0, .slice none 0 0, .slice none 0 0, .slice none 0 0, .slice none 0 0, .int .i64 0, .slice none 0 0, .slice none 0 0] 35
          have TC := Ty.new y2 35 #[.int .i64 0, .int .i64 0, .int .i64 0, .int .i64 0, .int .i64 0, .int .i64 0, .slice none 0 0, .slice none 0 0, .slice none 0 0, .slice none 0 0, .int .i64 0, .slice none 0 0, .slice none 0 0]
          have zX := NV.sz
          replace oK := Ct.own_below oK b8
          replace hE := Ct.own_below hE b8
          replace NV := NV.below b8
          obtain ⟨X, hX⟩ : ∃ X, X = y2.heap.size := ⟨_, rfl⟩
          rw [← hX] at RC TC zX ⊢
          generalize y2.alloc (.cells #[.int .i64 0, .int .i64 0, .int .i64 0, .int .i64 0, .int .i64 0, .int .i64 0, .slice none 0 0, .slice none 0 0, .slice none 0 0, .slice none 0 0, .int .i64 0, .slice none 0 0, .slice none 0 0] 35) = y3 at NV RC TC oK hE ⊢
          clear hX b8
          try dsimp only
          refine hK.out _ _ ⟨NV.R.cell 0 rfl, NV.R.cell 1 rfl, NV.R.cell 2 rfl, NV.R.cell 3 rfl, NV.R.cell 4 rfl, NV.R.cell 5 rfl⟩ ?_; clear hK K hHeld; intro hHeld; try simp only [Act.put, List.setIfInBounds_toArray, List.set_cons_zero, List.set_cons_succ]
          refine Tk.R 5 (some 17) (.call ⟨.builtin .append, #[.tmp 15, .tmp 16], #[27, 27]⟩) 27 none (fun K hK => ?_)
          have sz5 := NV.sz
          have lE := Ct.own_lt hE rfl
          refine step_own_any rfl (.tmp 15) (.tmp 16) 27 rfl (w.heap.size + 2) 4 i0 (.bool false) 1 1 Tryz.underlying27 hi0 hz0 hz1 hz2 rfl (by decide) _ 0 [] rfl hE aL bs.length cL (bools bs) rfl (by rw [Ct.bools_len]; omega) (src_bools ((rL.later NV.B (Nat.le_refl _)).more NV.B.size)) (Ct.oneb bs) (by unfold maxLen; omega) (by omega) (by omega) ?_
          intro v5 y4 hx5 hg5 hn5 ha5
          have TE := Ct.own_ty hE rfl
          rw [Nat.zero_add, List.nil_append] at hx5
          obtain ⟨gl0, c2, rfl, oL⟩ := Ct.ownb_of hx5 (Dg.no_nil hn5 rfl)
          obtain ⟨a2, ha2⟩ : ∃ a : Option Addr, a = some ⟨gl0, 0, none⟩ := ⟨_, rfl⟩
          replace oK := Ct.own_keep (w' := y4) oK fun g hg => hg5.block g (Ct.own_lt oK hg).2 (by intro e; exact Ct.own_ne oK hg TE (by decide) (Option.some.inj e))
          have nX : X ≠ gE := fun e => Ct.own_ne hE rfl TC (by decide) e.symm
          replace TC := TC.keep (hg5.block _ TC.lt (fun e => nX (Option.some.inj e)))
          replace RC := RC.other hg5 nX
          clear nX
          have bg5 : Below (w.heap.size + 2) y3 y4 := (Below.refl _ _).grown hg5 sz5 (by intro k hk; cases hk; exact lE.1)
          replace NV := NV.keep bg5
          rw [← ha2]
          replace oL : y4.ownsRow (w.heap.size + 2) 4 1 (.slice a2 bs.length c2) bs.length (bools bs) := by rw [ha2]; exact oL
          clear hx5 hg5 hn5 ha5 hE sz5 lE TE bg5 ha2
          try dsimp only
          refine hK.out _ _ ⟨NV.R.cell 0 rfl, NV.R.cell 1 rfl, NV.R.cell 2 rfl, NV.R.cell 3 rfl, NV.R.cell 4 rfl, NV.R.cell 5 rfl⟩ ?_; clear hK K hHeld; intro hHeld; try simp only [Act.put, List.setIfInBounds_toArray, List.set_cons_zero, List.set_cons_succ]
          refine Tk.W 6 (some 18) (.build 35 #[(0, .tmp 12), (1, .tmp 14), (2, .tmp 17)]) 35 none ?_
          refine Tk.R 8 none (.store 35 (.tmp 10) (.tmp 18)) 0 none (fun K hK => ?_)
          have e0 := RC.cell 0 rfl
          have e1 := RC.cell 1 rfl
          have e2 := RC.cell 2 rfl
          have e3 := RC.cell 3 rfl
          have e4 := RC.cell 4 rfl
          have e5 := RC.cell 5 rfl
          have e6 := RC.cell 6 rfl
          have e7 := RC.cell 7 rfl
          have e8 := RC.cell 8 rfl
          have e9 := RC.cell 9 rfl
          have e10 := RC.cell 10 rfl
          have e11 := RC.cell 11 rfl
          have e12 := RC.cell 12 rfl
          have f0 := RC.froz 0 rfl
          have f1 := RC.froz 1 rfl
          have f2 := RC.froz 2 rfl
          have f3 := RC.froz 3 rfl
          have f4 := RC.froz 4 rfl
          have f5 := RC.froz 5 rfl
          have f6 := RC.froz 6 rfl
          have f7 := RC.froz 7 rfl
          have f8 := RC.froz 8 rfl
          have f9 := RC.froz 9 rfl
          have f10 := RC.froz 10 rfl
          have f11 := RC.froz 11 rfl
          have f12 := RC.froz 12 rfl
          go_simp
          clear e0 f0 e1 f1 e2 f2 e3 f3 e4 f4 e5 f5 e6 f6 e7 f7 e8 f8 e9 f9 e10 f10 e11 f11 e12 f12
          have NE : Nf w (((((((((((((y4.setCell ⟨X, 0, none⟩ (.int .i64 n)).setCell ⟨X, 1, none⟩ (.int .i64 f)).setCell ⟨X, 2, none⟩ (.int .i64 p)).setCell ⟨X, 3, none⟩ (.int .i64 a)).setCell ⟨X, 4, none⟩ (.int .i64 l)).setCell ⟨X, 5, none⟩ (.int .i64 m)).setCell ⟨X, 6, none⟩ (.slice a1 zs.length c1)).setCell ⟨X, 7, none⟩ (.slice a2 bs.length c2)).setCell ⟨X, 8, none⟩ (.slice none 0 0)).setCell ⟨X, 9, none⟩ (.slice none 0 0)).setCell ⟨X, 10, none⟩ (.int .i64 0)).setCell ⟨X, 11, none⟩ (.slice none 0 0)).setCell ⟨X, 12, none⟩ (.slice none 0 0)) n f p a l m X a1 c1 a2 c2 zs bs (.slice none 0 0) := ⟨NV.keep (sets_below zX [.int .i64 n, .int .i64 f, .int .i64 p, .int .i64 a, .int .i64 l, .int .i64 m, .slice a1 zs.length c1, .slice a2 bs.length c2, .slice none 0 0, .slice none 0 0, .int .i64 0, .slice none 0 0, .slice none 0 0] 0 y4 (Below.refl _ _)), sets_room [.int .i64 n, .int .i64 f, .int .i64 p, .int .i64 a, .int .i64 l, .int .i64 m, .slice a1 zs.length c1, .slice a2 bs.length c2, .slice none 0 0, .slice none 0 0, .int .i64 0, .slice none 0 0, .slice none 0 0] 0 y4 [] [.int .i64 0, .int .i64 0, .int .i64 0, .int .i64 0, .int .i64 0, .int .i64 0, .slice none 0 0, .slice none 0 0, .slice none 0 0, .slice none 0 0, .int .i64 0, .slice none 0 0, .slice none 0 0] RC rfl rfl, Ct.own_keep oK fun g hg => sets_heap (Ct.own_ne oK hg TC (by decide)) [.int .i64 n, .int .i64 f, .int .i64 p, .int .i64 a, .int .i64 l, .int .i64 m, .slice a1 zs.length c1, .slice a2 bs.length c2, .slice none 0 0, .slice none 0 0, .int .i64 0, .slice none 0 0, .slice none 0 0] 0 y4, Ct.own_keep oL fun g hg => sets_heap (Ct.own_ne oL hg TC (by decide)) [.int .i64 n, .int .i64 f, .int .i64 p, .int .i64 a, .int .i64 l, .int .i64 m, .slice a1 zs.length c1, .slice a2 bs.length c2, .slice none 0 0, .slice none 0 0, .int .i64 0, .slice none 0 0, .slice none 0 0] 0 y4, zX, fun g hg => Ct.own_ne oK hg TC (by decide), fun g hg => Ct.own_ne oL hg TC (by decide)⟩
          generalize (((((((((((((y4.setCell ⟨X, 0, none⟩ (.int .i64 n)).setCell ⟨X, 1, none⟩ (.int .i64 f)).setCell ⟨X, 2, none⟩ (.int .i64 p)).setCell ⟨X, 3, none⟩ (.int .i64 a)).setCell ⟨X, 4, none⟩ (.int .i64 l)).setCell ⟨X, 5, none⟩ (.int .i64 m)).setCell ⟨X, 6, none⟩ (.slice a1 zs.length c1)).setCell ⟨X, 7, none⟩ (.slice a2 bs.length c2)).setCell ⟨X, 8, none⟩ (.slice none 0 0)).setCell ⟨X, 9, none⟩ (.slice none 0 0)).setCell ⟨X, 10, none⟩ (.int .i64 0)).setCell ⟨X, 11, none⟩ (.slice none 0 0)).setCell ⟨X, 12, none⟩ (.slice none 0 0)) = y5 at NE ⊢
          replace NV := NE.V
          try dsimp only
          refine hK.out _ _ ⟨NV.R.cell 0 rfl, NV.R.cell 1 rfl, NV.R.cell 2 rfl, NV.R.cell 3 rfl, NV.R.cell 4 rfl, NV.R.cell 5 rfl⟩ ?_; clear hK K hHeld; intro hHeld; try simp only [Act.put, List.setIfInBounds_toArray, List.set_cons_zero, List.set_cons_succ]
          refine wpAnyH_done (by kernel_rfl) ?_ _
          refine NoPanic.normal ?_
          clear hHeld
          go_wp2_with fail
          go_meet
          case rel => exact ⟨X, a1, c1, a2, c2, rfl, NE⟩
      · go_simp
        have b8 := (Below.refl y1.heap.size y1).alloc (Nat.le_refl _) (.cells #[.int .i64 0, .int .i64 0, .int .i64 0, .int .i64 0, .int .i64 0, .int .i64 0, .slice none 0 0, .slice none 0 0, .slice none 0 0, .slice none 0 0, .int .i64 0, .slice none 0 0, .slice none 0 0] 35)
        have RC := Room.new y1 [.int .i64 0, .int .i64 0, .int .i64 0, .int .i64 0, .int .i64 0, .int .i64 0, .slice none 0 0, .slice none 0 0, .slice none 0 0, .slice none 0 0, .int .i64 0, .slice none 0 0, .slice none 0 0] 35
        have TC := Ty.new y1 35 #[.int .i64 0, .int .i64 0, .int .i64 0, .int .i64 0, .int .i64 0, .int .i64 0, .slice none 0 0, .slice none 0 0, .slice none 0 0, .slice none 0 0, .int .i64 0, .slice none 0 0, .slice none 0 0]
        have zX := NV.sz
        replace oK := Ct.own_below oK b8
        replace NV := NV.below b8
        obtain ⟨X, hX⟩ : ∃ X, X = y1.heap.size := ⟨_, rfl⟩
        rw [← hX] at RC TC zX ⊢
        generalize y1.alloc (.cells #[.int .i64 0, .int .i64 0, .int .i64 0, .int .i64 0, .int .i64 0, .int .i64 0, .slice none 0 0, .slice none 0 0, .slice none 0 0, .slice none 0 0, .int .i64 0, .slice none 0 0, .slice none 0 0] 35) = y2 at NV RC TC oK ⊢
        clear hX b8
        try dsimp only
        refine hK.out _ _ ⟨NV.R.cell 0 rfl, NV.R.cell 1 rfl, NV.R.cell 2 rfl, NV.R.cell 3 rfl, NV.R.cell 4 rfl, NV.R.cell 5 rfl⟩ ?_; clear hK K hHeld; intro hHeld; try simp only [Act.put, List.setIfInBounds_toArray, List.set_cons_zero, List.set_cons_succ]
        refine Tk.R 3 (some 15) (.buildSlice 27 0 #[]) 27 none (fun K hK => ?_)
        go_simp
        have b3 := (Below.refl y2.heap.size y2).alloc (Nat.le_refl _) (.cells #[] 4)
        have hE : (y2.alloc (.cells #[] 4)).ownsRow (w.heap.size + 2) 4 1 (.slice (some ⟨y2.heap.size, 0, none⟩) 0 0) 0 [] := World.ownsRow_made y2 #[] 0 NV.sz (by unfold maxLen; omega) rfl
        replace oK := Ct.own_below oK b3
        replace RC := RC.below b3
        replace TC := TC.keep (b3.block _ TC.lt)
        replace NV := NV.below b3
        obtain ⟨gE, hgE⟩ : ∃ gE, gE = y2.heap.size := ⟨_, rfl⟩
        rw [← hgE] at hE ⊢
        generalize y2.alloc (.cells #[] 4) = y3 at hE NV oK RC TC ⊢
        clear hgE b3
        try dsimp only
        refine hK.out _ _ ⟨NV.R.cell 0 rfl, NV.R.cell 1 rfl, NV.R.cell 2 rfl, NV.R.cell 3 rfl, NV.R.cell 4 rfl, NV.R.cell 5 rfl⟩ ?_; clear hK K hHeld; intro hHeld; try simp only [Act.put, List.setIfInBounds_toArray, List.set_cons_zero, List.set_cons_succ]
        refine Tk.R 5 (some 17) (.call ⟨.builtin .append, #[.tmp 15, .tmp 16], #[27, 27]⟩) 27 none (fun K hK => ?_)
        have sz5 := NV.sz
        have lE := Ct.own_lt hE rfl
        refine step_own_any rfl (.tmp 15) (.tmp 16) 27 rfl (w.heap.size + 2) 4 i0 (.bool false) 1 1 Tryz.underlying27 hi0 hz0 hz1 hz2 rfl (by decide) _ 0 [] rfl hE aL bs.length cL (bools bs) rfl (by rw [Ct.bools_len]; omega) (src_bools ((rL.later NV.B (Nat.le_refl _)).more NV.B.size)) (Ct.oneb bs) (by unfold maxLen; omega) (by omega) (by omega) ?_
        intro v5 y4 hx5 hg5 hn5 ha5
        have TE := Ct.own_ty hE rfl
        rw [Nat.zero_add, List.nil_append] at hx5
        obtain ⟨gl0, c2, rfl, oL⟩ := Ct.ownb_of hx5 (Dg.no_nil hn5 rfl)
        obtain ⟨a2, ha2⟩ : ∃ a : Option Addr, a = some ⟨gl0, 0, none⟩ := ⟨_, rfl⟩
        replace oK := Ct.own_keep (w' := y4) oK fun g hg => hg5.block g (Ct.own_lt oK hg).2 (by intro e; exact Ct.own_ne oK hg TE (by decide) (Option.some.inj e))
        have nX : X ≠ gE := fun e => Ct.own_ne hE rfl TC (by decide) e.symm
        replace TC := TC.keep (hg5.block _ TC.lt (fun e => nX (Option.some.inj e)))
        replace RC := RC.other hg5 nX
        clear nX
        have bg5 : Below (w.heap.size + 2) y3 y4 := (Below.refl _ _).grown hg5 sz5 (by intro k hk; cases hk; exact lE.1)
        replace NV := NV.keep bg5
        rw [← ha2]
        replace oL : y4.ownsRow (w.heap.size + 2) 4 1 (.slice a2 bs.length c2) bs.length (bools bs) := by rw [ha2]; exact oL
        clear hx5 hg5 hn5 ha5 hE sz5 lE TE bg5 ha2
        try dsimp only
        refine hK.out _ _ ⟨NV.R.cell 0 rfl, NV.R.cell 1 rfl, NV.R.cell 2 rfl, NV.R.cell 3 rfl, NV.R.cell 4 rfl, NV.R.cell 5 rfl⟩ ?_; clear hK K hHeld; intro hHeld; try simp only [Act.put, List.setIfInBounds_toArray, List.set_cons_zero, List.set_cons_succ]
        refine Tk.W 6 (some 18) (.build 35 #[(0, .tmp 12), (1, .tmp 14), (2, .tmp 17)]) 35 none ?_
        refine Tk.R 8 none (.store 35 (.tmp 10) (.tmp 18)) 0 none (fun K hK => ?_)
        have e0 := RC.cell 0 rfl
        have e1 := RC.cell 1 rfl
        have e2 := RC.cell 2 rfl
        have e3 := RC.cell 3 rfl
        have e4 := RC.cell 4 rfl
        have e5 := RC.cell 5 rfl
        have e6 := RC.cell 6 rfl
        have e7 := RC.cell 7 rfl
        have e8 := RC.cell 8 rfl
        have e9 := RC.cell 9 rfl
        have e10 := RC.cell 10 rfl
        have e11 := RC.cell 11 rfl
        have e12 := RC.cell 12 rfl
        have f0 := RC.froz 0 rfl
        have f1 := RC.froz 1 rfl
        have f2 := RC.froz 2 rfl
        have f3 := RC.froz 3 rfl
        have f4 := RC.froz 4 rfl
        have f5 := RC.froz 5 rfl
        have f6 := RC.froz 6 rfl
        have f7 := RC.froz 7 rfl
        have f8 := RC.froz 8 rfl
        have f9 := RC.froz 9 rfl
        have f10 := RC.froz 10 rfl
        have f11 := RC.froz 11 rfl
        have f12 := RC.froz 12 rfl
        go_simp
        clear e0 f0 e1 f1 e2 f2 e3 f3 e4 f4 e5 f5 e6 f6 e7 f7 e8 f8 e9 f9 e10 f10 e11 f11 e12 f12
        have NE : Nf w (((((((((((((y4.setCell ⟨X, 0, none⟩ (.int .i64 n)).setCell ⟨X, 1, none⟩ (.int .i64 f)).setCell ⟨X, 2, none⟩ (.int .i64 p)).setCell ⟨X, 3, none⟩ (.int .i64 a)).setCell ⟨X, 4, none⟩ (.int .i64 l)).setCell ⟨X, 5, none⟩ (.int .i64 m)).setCell ⟨X, 6, none⟩ (.slice a1 zs.length c1)).setCell ⟨X, 7, none⟩ (.slice a2 bs.length c2)).setCell ⟨X, 8, none⟩ (.slice none 0 0)).setCell ⟨X, 9, none⟩ (.slice none 0 0)).setCell ⟨X, 10, none⟩ (.int .i64 0)).setCell ⟨X, 11, none⟩ (.slice none 0 0)).setCell ⟨X, 12, none⟩ (.slice none 0 0)) n f p a l m X a1 c1 a2 c2 zs bs (.slice none 0 0) := ⟨NV.keep (sets_below zX [.int .i64 n, .int .i64 f, .int .i64 p, .int .i64 a, .int .i64 l, .int .i64 m, .slice a1 zs.length c1, .slice a2 bs.length c2, .slice none 0 0, .slice none 0 0, .int .i64 0, .slice none 0 0, .slice none 0 0] 0 y4 (Below.refl _ _)), sets_room [.int .i64 n, .int .i64 f, .int .i64 p, .int .i64 a, .int .i64 l, .int .i64 m, .slice a1 zs.length c1, .slice a2 bs.length c2, .slice none 0 0, .slice none 0 0, .int .i64 0, .slice none 0 0, .slice none 0 0] 0 y4 [] [.int .i64 0, .int .i64 0, .int .i64 0, .int .i64 0, .int .i64 0, .int .i64 0, .slice none 0 0, .slice none 0 0, .slice none 0 0, .slice none 0 0, .int .i64 0, .slice none 0 0, .slice none 0 0] RC rfl rfl, Ct.own_keep oK fun g hg => sets_heap (Ct.own_ne oK hg TC (by decide)) [.int .i64 n, .int .i64 f, .int .i64 p, .int .i64 a, .int .i64 l, .int .i64 m, .slice a1 zs.length c1, .slice a2 bs.length c2, .slice none 0 0, .slice none 0 0, .int .i64 0, .slice none 0 0, .slice none 0 0] 0 y4, Ct.own_keep oL fun g hg => sets_heap (Ct.own_ne oL hg TC (by decide)) [.int .i64 n, .int .i64 f, .int .i64 p, .int .i64 a, .int .i64 l, .int .i64 m, .slice a1 zs.length c1, .slice a2 bs.length c2, .slice none 0 0, .slice none 0 0, .int .i64 0, .slice none 0 0, .slice none 0 0] 0 y4, zX, fun g hg => Ct.own_ne oK hg TC (by decide), fun g hg => Ct.own_ne oL hg TC (by decide)⟩
        generalize (((((((((((((y4.setCell ⟨X, 0, none⟩ (.int .i64 n)).setCell ⟨X, 1, none⟩ (.int .i64 f)).setCell ⟨X, 2, none⟩ (.int .i64 p)).setCell ⟨X, 3, none⟩ (.int .i64 a)).setCell ⟨X, 4, none⟩ (.int .i64 l)).setCell ⟨X, 5, none⟩ (.int .i64 m)).setCell ⟨X, 6, none⟩ (.slice a1 zs.length c1)).setCell ⟨X, 7, none⟩ (.slice a2 bs.length c2)).setCell ⟨X, 8, none⟩ (.slice none 0 0)).setCell ⟨X, 9, none⟩ (.slice none 0 0)).setCell ⟨X, 10, none⟩ (.int .i64 0)).setCell ⟨X, 11, none⟩ (.slice none 0 0)).setCell ⟨X, 12, none⟩ (.slice none 0 0)) = y5 at NE ⊢
        replace NV := NE.V
        try dsimp only
        refine hK.out _ _ ⟨NV.R.cell 0 rfl, NV.R.cell 1 rfl, NV.R.cell 2 rfl, NV.R.cell 3 rfl, NV.R.cell 4 rfl, NV.R.cell 5 rfl⟩ ?_; clear hK K hHeld; intro hHeld; try simp only [Act.put, List.setIfInBounds_toArray, List.set_cons_zero, List.set_cons_succ]
        refine wpAnyH_done (by kernel_rfl) ?_ _
        refine NoPanic.normal ?_
        clear hHeld
        go_wp2_with fail
        go_meet
        case rel => exact ⟨X, a1, c1, a2, c2, rfl, NE⟩
    · go_simp
      have b3 := (Below.refl y0.heap.size y0).alloc (Nat.le_refl _) (.cells #[] 4)
      have hE : (y0.alloc (.cells #[] 4)).ownsRow (w.heap.size + 2) 4 1 (.slice (some ⟨y0.heap.size, 0, none⟩) 0 0) 0 [] := World.ownsRow_made y0 #[] 0 NV.sz (by unfold maxLen; omega) rfl
      replace NV := NV.below b3
      obtain ⟨gE, hgE⟩ : ∃ gE, gE = y0.heap.size := ⟨_, rfl⟩
      rw [← hgE] at hE ⊢
      generalize y0.alloc (.cells #[] 4) = y1 at hE NV  ⊢
      clear hgE b3
      try dsimp only
      refine hK.out _ _ ⟨NV.R.cell 0 rfl, NV.R.cell 1 rfl, NV.R.cell 2 rfl, NV.R.cell 3 rfl, NV.R.cell 4 rfl, NV.R.cell 5 rfl⟩ ?_; clear hK K hHeld; intro hHeld; try simp only [Act.put, List.setIfInBounds_toArray, List.set_cons_zero, List.set_cons_succ]
      refine wpAnyH_ready (rs := [2, 7]) (by kernel_rfl) (by simp) ?_
      refine (AllReadyH.cons (o := ⟨some 14, .call ⟨.value (.func 46), #[.tmp 13], #[26]⟩, 26, _, _, none⟩) rfl (fun K hK => ?_) (AllReadyH.cons (o := ⟨some 10, .alloc 35, 0, _, _, none⟩) rfl (fun K hK => ?_) AllReadyH.nil))
      · go_simp
        refine (l1Copy aK zs.length cK zs _ ((rK.later NV.B (Nat.le_refl _)).more NV.B.size) h1).mono ?_
        rintro e y2 ⟨⟨gk0, c1, rfl, oK⟩, bq20⟩
        obtain ⟨a1, ha1⟩ : ∃ a : Option Addr, a = some ⟨gk0, 0, none⟩ := ⟨_, rfl⟩
        rw [← ha1]
        replace oK := Ct.own_low oK NV.sz
        replace oK : y2.ownsRow (w.heap.size + 2) 2 1 (.slice a1 zs.length c1) zs.length (ints zs) := by rw [ha1]; exact oK
        clear ha1
        replace hE := Ct.own_below hE bq20
        replace NV := NV.below bq20
        clear bq20
        try dsimp only
        refine hK.out _ _ ⟨NV.R.cell 0 rfl, NV.R.cell 1 rfl, NV.R.cell 2 rfl, NV.R.cell 3 rfl, NV.R.cell 4 rfl, NV.R.cell 5 rfl⟩ ?_; clear hK K hHeld; intro hHeld; try simp only [Act.put, List.setIfInBounds_toArray, List.set_cons_zero, List.set_cons_succ]
        refine wpAnyH_ready (rs := [5, 7]) (by kernel_rfl) (by simp) ?_
        refine (AllReadyH.cons (o := ⟨some 17, .call ⟨.builtin .append, #[.tmp 15, .tmp 16], #[27, 27]⟩, 27, _, _, none⟩) rfl (fun K hK => ?_) (AllReadyH.cons (o := ⟨some 10, .alloc 35, 0, _, _, none⟩) rfl (fun K hK => ?_) AllReadyH.nil))
        · have sz5 := NV.sz
          have lE := Ct.own_lt hE rfl
          refine step_own_any rfl (.tmp 15) (.tmp 16) 27 rfl (w.heap.size + 2) 4 i0 (.bool false) 1 1 Tryz.underlying27 hi0 hz0 hz1 hz2 rfl (by decide) _ 0 [] rfl hE aL bs.length cL (bools bs) rfl (by rw [Ct.bools_len]; omega) (src_bools ((rL.later NV.B (Nat.le_refl _)).more NV.B.size)) (Ct.oneb bs) (by unfold maxLen; omega) (by omega) (by omega) ?_
          intro v5 y3 hx5 hg5 hn5 ha5
          have TE := Ct.own_ty hE rfl
          rw [Nat.zero_add, List.nil_append] at hx5
          obtain ⟨gl0, c2, rfl, oL⟩ := Ct.ownb_of hx5 (Dg.no_nil hn5 rfl)
          obtain ⟨a2, ha2⟩ : ∃ a : Option Addr, a = some ⟨gl0, 0, none⟩ := ⟨_, rfl⟩
          replace oK := Ct.own_keep (w' := y3) oK fun g hg => hg5.block g (Ct.own_lt oK hg).2 (by intro e; exact Ct.own_ne oK hg TE (by decide) (Option.some.inj e))
          have bg5 : Below (w.heap.size + 2) y2 y3 := (Below.refl _ _).grown hg5 sz5 (by intro k hk; cases hk; exact lE.1)
          replace NV := NV.keep bg5
          rw [← ha2]
          replace oL : y3.ownsRow (w.heap.size + 2) 4 1 (.slice a2 bs.length c2) bs.length (bools bs) := by rw [ha2]; exact oL
          clear hx5 hg5 hn5 ha5 hE sz5 lE TE bg5 ha2
          try dsimp only
          refine hK.out _ _ ⟨NV.R.cell 0 rfl, NV.R.cell 1 rfl, NV.R.cell 2 rfl, NV.R.cell 3 rfl, NV.R.cell 4 rfl, NV.R.cell 5 rfl⟩ ?_; clear hK K hHeld; intro hHeld; try simp only [Act.put, List.setIfInBounds_toArray, List.set_cons_zero, List.set_cons_succ]
          refine Tk.W 6 (some 18) (.build 35 #[(0, .tmp 12), (1, .tmp 14), (2, .tmp 17)]) 35 none ?_
          refine Tk.R 7 (some 10) (.alloc 35) 0 none (fun K hK => ?_)
          go_simp
          have b8 := (Below.refl y3.heap.size y3).alloc (Nat.le_refl _) (.cells #[.int .i64 0, .int .i64 0, .int .i64 0, .int .i64 0, .int .i64 0, .int .i64 0, .slice none 0 0, .slice none 0 0, .slice none 0 0, .slice none 0 0, .int .i64 0, .slice none 0 0, .slice none 0 0] 35)
          have RC := Room.new y3 [.int .i64 0, .int .i64 0, .int .i64 0, .int .i64 0, .int .i64 0, .int .i64 0, .slice none 0 0, .slice none 0 0, .slice none 0 0, .slice none 0 0, .int .i64 0, .slice none 0 0, .slice none 0 0] 35
          have TC := Ty.new y3 35 #[.int .i64 0, .int .i64 0, .int .i64 0, .int .i64 0, .int .i64 0, .int .i64 0, .slice none 0 0, .slice none 0 0, .slice none 0 0, .slice none 0 0, .int .i64 0, .slice none 0 0, .slice none 0 0]
          have zX := NV.sz
          replace oK := Ct.own_below oK b8
          replace oL := Ct.own_below oL b8
          replace NV := NV.below b8
          obtain ⟨X, hX⟩ : ∃ X, X = y3.heap.size := ⟨_, rfl⟩
          rw [← hX] at RC TC zX ⊢
          generalize y3.alloc (.cells #[.int .i64 0, .int .i64 0, .int .i64 0, .int .i64 0, .int .i64 0, .int .i64 0, .slice none 0 0, .slice none 0 0, .slice none 0 0, .slice none 0 0, .int .i64 0, .slice none 0 0, .slice none 0 0] 35) = y4 at NV RC TC oK oL ⊢
          clear hX b8
          try dsimp only
          refine hK.out _ _ ⟨NV.R.cell 0 rfl, NV.R.cell 1 rfl, NV.R.cell 2 rfl, NV.R.cell 3 rfl, NV.R.cell 4 rfl, NV.R.cell 5 rfl⟩ ?_; clear hK K hHeld; intro hHeld; try simp only [Act.put, List.setIfInBounds_toArray, List.set_cons_zero, List.set_cons_succ]
          refine Tk.R 8 none (.store 35 (.tmp 10) (.tmp 18)) 0 none (fun K hK => ?_)
          have e0 := RC.cell 0 rfl
          have e1 := RC.cell 1 rfl
          have e2 := RC.cell 2 rfl
          have e3 := RC.cell 3 rfl
          have e4 := RC.cell 4 rfl
          have e5 := RC.cell 5 rfl
          have e6 := RC.cell 6 rfl
          have e7 := RC.cell 7 rfl
          have e8 := RC.cell 8 rfl
          have e9 := RC.cell 9 rfl
          have e10 := RC.cell 10 rfl
          have e11 := RC.cell 11 rfl
          have e12 := RC.cell 12 rfl
          have f0 := RC.froz 0 rfl
          have f1 := RC.froz 1 rfl
          have f2 := RC.froz 2 rfl
          have f3 := RC.froz 3 rfl
          have f4 := RC.froz 4 rfl
          have f5 := RC.froz 5 rfl
          have f6 := RC.froz 6 rfl
          have f7 := RC.froz 7 rfl
          have f8 := RC.froz 8 rfl
          have f9 := RC.froz 9 rfl
          have f10 := RC.froz 10 rfl
          have f11 := RC.froz 11 rfl
          have f12 := RC.froz 12 rfl
          go_simp
          clear e0 f0 e1 f1 e2 f2 e3 f3 e4 f4 e5 f5 e6 f6 e7 f7 e8 f8 e9 f9 e10 f10 e11 f11 e12 f12
          have NE : Nf w (((((((((((((y4.setCell ⟨X, 0, none⟩ (.int .i64 n)).setCell ⟨X, 1, none⟩ (.int .i64 f)).setCell ⟨X, 2, none⟩ (.int .i64 p)).setCell ⟨X, 3, none⟩ (.int .i64 a)).setCell ⟨X, 4, none⟩ (.int .i64 l)).setCell ⟨X, 5, none⟩ (.int .i64 m)).setCell ⟨X, 6, none⟩ (.slice a1 zs.length c1)).setCell ⟨X, 7, none⟩ (.slice a2 bs.length c2)).setCell ⟨X, 8, none⟩ (.slice none 0 0)).setCell ⟨X, 9, none⟩ (.slice none 0 0)).setCell ⟨X, 10, none⟩ (.int .i64 0)).setCell ⟨X, 11, none⟩ (.slice none 0 0)).setCell ⟨X, 12, none⟩ (.slice none 0 0)) n f p a l m X a1 c1 a2 c2 zs bs (.slice none 0 0) := ⟨NV.keep (sets_below zX [.int .i64 n, .int .i64 f, .int .i64 p, .int .i64 a, .int .i64 l, .int .i64 m, .slice a1 zs.length c1, .slice a2 bs.length c2, .slice none 0 0, .slice none 0 0, .int .i64 0, .slice none 0 0, .slice none 0 0] 0 y4 (Below.refl _ _)), sets_room [.int .i64 n, .int .i64 f, .int .i64 p, .int .i64 a, .int .i64 l, .int .i64 m, .slice a1 zs.length c1, .slice a2 bs.length c2, .slice none 0 0, .slice none 0 0, .int .i64 0, .slice none 0 0, .slice none 0 0] 0 y4 [] [.int .i64 0, .int .i64 0, .int .i64 0, .int .i64 0, .int .i64 0, .int .i64 0, .slice none 0 0, .slice none 0 0, .slice none 0 0, .slice none 0 0, .int .i64 0, .slice none 0 0, .slice none 0 0] RC rfl rfl, Ct.own_keep oK fun g hg => sets_heap (Ct.own_ne oK hg TC (by decide)) [.int .i64 n, .int .i64 f, .int .i64 p, .int .i64 a, .int .i64 l, .int .i64 m, .slice a1 zs.length c1, .slice a2 bs.length c2, .slice none 0 0, .slice none 0 0, .int .i64 0, .slice none 0 0, .slice none 0 0] 0 y4, Ct.own_keep oL fun g hg => sets_heap (Ct.own_ne oL hg TC (by decide)) [.int .i64 n, .int .i64 f, .int .i64 p, .int .i64 a, .int .i64 l, .int .i64 m, .slice a1 zs.length c1, .slice a2 bs.length c2, .slice none 0 0, .slice none 0 0, .int .i64 0, .slice none 0 0, .slice none 0 0] 0 y4, zX, fun g hg => Ct.own_ne oK hg TC (by decide), fun g hg => Ct.own_ne oL hg TC (by decide)⟩
          generalize (((((((((((((y4.setCell ⟨X, 0, none⟩ (.int .i64 n)).setCell ⟨X, 1, none⟩ (.int .i64 f)).setCell ⟨X, 2, none⟩ (.int .i64 p)).setCell ⟨X, 3, none⟩ (.int .i64 a)).setCell ⟨X, 4, none⟩ (.int .i64 l)).setCell ⟨X, 5, none⟩ (.int .i64 m)).setCell ⟨X, 6, none⟩ (.slice a1 zs.length c1)).setCell ⟨X, 7, none⟩ (.slice a2 bs.length c2)).setCell ⟨X, 8, none⟩ (.slice none 0 0)).setCell ⟨X, 9, none⟩ (.slice none 0 0)).setCell ⟨X, 10, none⟩ (.int .i64 0)).setCell ⟨X, 11, none⟩ (.slice none 0 0)).setCell ⟨X, 12, none⟩ (.slice none 0 0)) = y5 at NE ⊢
          replace NV := NE.V
          try dsimp only
          refine hK.out _ _ ⟨NV.R.cell 0 rfl, NV.R.cell 1 rfl, NV.R.cell 2 rfl, NV.R.cell 3 rfl, NV.R.cell 4 rfl, NV.R.cell 5 rfl⟩ ?_; clear hK K hHeld; intro hHeld; try simp only [Act.put, List.setIfInBounds_toArray, List.set_cons_zero, List.set_cons_succ]
          refine wpAnyH_done (by kernel_rfl) ?_ _
          refine NoPanic.normal ?_
          clear hHeld
          go_wp2_with fail
          go_meet
          case rel => exact ⟨X, a1, c1, a2, c2, rfl, NE⟩
        · go_simp
          have b8 := (Below.refl y2.heap.size y2).alloc (Nat.le_refl _) (.cells #[.int .i64 0, .int .i64 0, .int .i64 0, .int .i64 0, .int .i64 0, .int .i64 0, .slice none 0 0, .slice none 0 0, .slice none 0 0, .slice none 0 0, .int .i64 0, .slice none 0 0, .slice none 0 0] 35)
          have RC := Room.new y2 [.int .i64 0, .int .i64 0, .int .i64 0, .int .i64 0, .int .i64 0, .int .i64 0, .slice none 0 0, .slice none 0 0, .slice none 0 0, .slice none 0 0, .int .i64 0, .slice none 0 0, .slice none 0 0] 35
          have TC := Ty.new y2 35 #[.int .i64 0, .int .i64 0, .int .i64 0, .int .i64 0, .int .i64 0, .int .i64 0, .slice none 0 0, .slice none 0 0, .slice none 0 0, .slice none 0 0, .int .i64 0, .slice none 0 0, .slice none 0 0]
          have zX := NV.sz
          replace oK := Ct.own_below oK b8
          replace hE := Ct.own_below hE b8
          replace NV := NV.below b8
          obtain ⟨X, hX⟩ : ∃ X, X = y2.heap.size := ⟨_, rfl⟩
          rw [← hX] at RC TC zX ⊢
          generalize y2.alloc (.cells #[.int .i64 0, .int .i64 0, .int .i64 0, .int .i64 0, .int .i64 0, .int .i64 0, .slice none 0 0, .slice none 0 0, .slice none 0 0, .slice none 0 0, .int .i64 0, .slice none 0 0, .slice none 0 0] 35) = y3 at NV RC TC oK hE ⊢
          clear hX b8
          try dsimp only
          refine hK.out _ _ ⟨NV.R.cell 0 rfl, NV.R.cell 1 rfl, NV.R.cell 2 rfl, NV.R.cell 3 rfl, NV.R.cell 4 rfl, NV.R.cell 5 rfl⟩ ?_; clear hK K hHeld; intro hHeld; try simp only [Act.put, List.setIfInBounds_toArray, List.set_cons_zero, List.set_cons_succ]
          refine Tk.R 5 (some 17) (.call ⟨.builtin .append, #[.tmp 15, .tmp 16], #[27, 27]⟩) 27 none (fun K hK => ?_)
          have sz5 := NV.sz
          have lE := Ct.own_lt hE rfl
          refine step_own_any rfl (.tmp 15) (.tmp 16) 27 rfl (w.heap.size + 2) 4 i0 (.bool false) 1 1 Tryz.underlying27 hi0 hz0 hz1 hz2 rfl (by decide) _ 0 [] rfl hE aL bs.length cL (bools bs) rfl (by rw [Ct.bools_len]; omega) (src_bools ((rL.later NV.B (Nat.le_refl _)).more NV.B.size)) (Ct.oneb bs) (by unfold maxLen; omega) (by omega) (by omega) ?_
          intro v5 y4 hx5 hg5 hn5 ha5
          have TE := Ct.own_ty hE rfl
          rw [Nat.zero_add, List.nil_append] at hx5
          obtain ⟨gl0, c2, rfl, oL⟩ := Ct.ownb_of hx5 (Dg.no_nil hn5 rfl)
          obtain ⟨a2, ha2⟩ : ∃ a : Option Addr, a = some ⟨gl0, 0, none⟩ := ⟨_, rfl⟩
          replace oK := Ct.own_keep (w' := y4) oK fun g hg => hg5.block g (Ct.own_lt oK hg).2 (by intro e; exact Ct.own_ne oK hg TE (by decide) (Option.some.inj e))
          have nX : X ≠ gE := fun e => Ct.own_ne hE rfl TC (by decide) e.symm
          replace TC := TC.keep (hg5.block _ TC.lt (fun e => nX (Option.some.inj e)))
          replace RC := RC.other hg5 nX
          clear nX
          have bg5 : Below (w.heap.size + 2) y3 y4 := (Below.refl _ _).grown hg5 sz5 (by intro k hk; cases hk; exact lE.1)
          replace NV := NV.keep bg5
          rw [← ha2]
          replace oL : y4.ownsRow (w.heap.size + 2) 4 1 (.slice a2 bs.length c2) bs.length (bools bs) := by rw [ha2]; exact oL
          clear hx5 hg5 hn5 ha5 hE sz5 lE TE bg5 ha2
          try dsimp only
          refine hK.out _ _ ⟨NV.R.cell 0 rfl, NV.R.cell 1 rfl, NV.R.cell 2 rfl, NV.R.cell 3 rfl, NV.R.cell 4 rfl, NV.R.cell 5 rfl⟩ ?_; clear hK K hHeld; intro hHeld; try simp only [Act.put, List.setIfInBounds_toArray, List.set_cons_zero, List.set_cons_succ]
          refine Tk.W 6 (some 18) (.build 35 #[(0, .tmp 12), (1, .tmp 14), (2, .tmp 17)]) 35 none ?_
          refine Tk.R 8 none (.store 35 (.tmp 10) (.tmp 18)) 0 none (fun K hK => ?_)
          have e0 := RC.cell 0 rfl
          have e1 := RC.cell 1 rfl
          have e2 := RC.cell 2 rfl
          have e3 := RC.cell 3 rfl
          have e4 := RC.cell 4 rfl
          have e5 := RC.cell 5 rfl
          have e6 := RC.cell 6 rfl
          have e7 := RC.cell 7 rfl
          have e8 := RC.cell 8 rfl
          have e9 := RC.cell 9 rfl
          have e10 := RC.cell 10 rfl
          have e11 := RC.cell 11 rfl
          have e12 := RC.cell 12 rfl
          have f0 := RC.froz 0 rfl
          have f1 := RC.froz 1 rfl
          have f2 := RC.froz 2 rfl
          have f3 := RC.froz 3 rfl
          have f4 := RC.froz 4 rfl
          have f5 := RC.froz 5 rfl
          have f6 := RC.froz 6 rfl
          have f7 := RC.froz 7 rfl
          have f8 := RC.froz 8 rfl
          have f9 := RC.froz 9 rfl
          have f10 := RC.froz 10 rfl
          have f11 := RC.froz 11 rfl
          have f12 := RC.froz 12 rfl
          go_simp
          clear e0 f0 e1 f1 e2 f2 e3 f3 e4 f4 e5 f5 e6 f6 e7 f7 e8 f8 e9 f9 e10 f10 e11 f11 e12 f12
          have NE : Nf w (((((((((((((y4.setCell ⟨X, 0, none⟩ (.int .i64 n)).setCell ⟨X, 1, none⟩ (.int .i64 f)).setCell ⟨X, 2, none⟩ (.int .i64 p)).setCell ⟨X, 3, none⟩ (.int .i64 a)).setCell ⟨X, 4, none⟩ (.int .i64 l)).setCell ⟨X, 5, none⟩ (.int .i64 m)).setCell ⟨X, 6, none⟩ (.slice a1 zs.length c1)).setCell ⟨X, 7, none⟩ (.slice a2 bs.length c2)).setCell ⟨X, 8, none⟩ (.slice none 0 0)).setCell ⟨X, 9, none⟩ (.slice none 0 0)).setCell ⟨X, 10, none⟩ (.int .i64 0)).setCell ⟨X, 11, none⟩ (.slice none 0 0)).setCell ⟨X, 12, none⟩ (.slice none 0 0)) n f p a l m X a1 c1 a2 c2 zs bs (.slice none 0 0) := ⟨NV.keep (sets_below zX [.int .i64 n, .int .i64 f, .int .i64 p, .int .i64 a, .int .i64 l, .int .i64 m, .slice a1 zs.length c1, .slice a2 bs.length c2, .slice none 0 0, .slice none 0 0, .int .i64 0, .slice none 0 0, .slice none 0 0] 0 y4 (Below.refl _ _)), sets_room [.int .i64 n, .int .i64 f, .int .i64 p, .int .i64 a, .int .i64 l, .int .i64 m, .slice a1 zs.length c1, .slice a2 bs.length c2, .slice none 0 0, .slice none 0 0, .int .i64 0, .slice none 0 0, .slice none 0 0] 0 y4 [] [.int .i64 0, .int .i64 0, .int .i64 0, .int .i64 0, .int .i64 0, .int .i64 0, .slice none 0 0, .slice none 0 0, .slice none 0 0, .slice none 0 0, .int .i64 0, .slice none 0 0, .slice none 0 0] RC rfl rfl, Ct.own_keep oK fun g hg => sets_heap (Ct.own_ne oK hg TC (by decide)) [.int .i64 n, .int .i64 f, .int .i64 p, .int .i64 a, .int .i64 l, .int .i64 m, .slice a1 zs.length c1, .slice a2 bs.length c2, .slice none 0 0, .slice none 0 0, .int .i64 0, .slice none 0 0, .slice none 0 0] 0 y4, Ct.own_keep oL fun g hg => sets_heap (Ct.own_ne oL hg TC (by decide)) [.int .i64 n, .int .i64 f, .int .i64 p, .int .i64 a, .int .i64 l, .int .i64 m, .slice a1 zs.length c1, .slice a2 bs.length c2, .slice none 0 0, .slice none 0 0, .int .i64 0, .slice none 0 0, .slice none 0 0] 0 y4, zX, fun g hg => Ct.own_ne oK hg TC (by decide), fun g hg => Ct.own_ne oL hg TC (by decide)⟩
          generalize (((((((((((((y4.setCell ⟨X, 0, none⟩ (.int .i64 n)).setCell ⟨X, 1, none⟩ (.int .i64 f)).setCell ⟨X, 2, none⟩ (.int .i64 p)).setCell ⟨X, 3, none⟩ (.int .i64 a)).setCell ⟨X, 4, none⟩ (.int .i64 l)).setCell ⟨X, 5, none⟩ (.int .i64 m)).setCell ⟨X, 6, none⟩ (.slice a1 zs.length c1)).setCell ⟨X, 7, none⟩ (.slice a2 bs.length c2)).setCell ⟨X, 8, none⟩ (.slice none 0 0)).setCell ⟨X, 9, none⟩ (.slice none 0 0)).setCell ⟨X, 10, none⟩ (.int .i64 0)).setCell ⟨X, 11, none⟩ (.slice none 0 0)).setCell ⟨X, 12, none⟩ (.slice none 0 0)) = y5 at NE ⊢
          replace NV := NE.V
          try dsimp only
          refine hK.out _ _ ⟨NV.R.cell 0 rfl, NV.R.cell 1 rfl, NV.R.cell 2 rfl, NV.R.cell 3 rfl, NV.R.cell 4 rfl, NV.R.cell 5 rfl⟩ ?_; clear hK K hHeld; intro hHeld; try simp only [Act.put, List.setIfInBounds_toArray, List.set_cons_zero, List.set_cons_succ]
          refine wpAnyH_done (by kernel_rfl) ?_ _
          refine NoPanic.normal ?_
          clear hHeld
          go_wp2_with fail
          go_meet
          case rel => exact ⟨X, a1, c1, a2, c2, rfl, NE⟩
      · go_simp
        have b8 := (Below.refl y1.heap.size y1).alloc (Nat.le_refl _) (.cells #[.int .i64 0, .int .i64 0, .int .i64 0, .int .i64 0, .int .i64 0, .int .i64 0, .slice none 0 0, .slice none 0 0, .slice none 0 0, .slice none 0 0, .int .i64 0, .slice none 0 0, .slice none 0 0] 35)
        have RC := Room.new y1 [.int .i64 0, .int .i64 0, .int .i64 0, .int .i64 0, .int .i64 0, .int .i64 0, .slice none 0 0, .slice none 0 0, .slice none 0 0, .slice none 0 0, .int .i64 0, .slice none 0 0, .slice none 0 0] 35
        have TC := Ty.new y1 35 #[.int .i64 0, .int .i64 0, .int .i64 0, .int .i64 0, .int .i64 0, .int .i64 0, .slice none 0 0, .slice none 0 0, .slice none 0 0, .slice none 0 0, .int .i64 0, .slice none 0 0, .slice none 0 0]
        have zX := NV.sz
        replace hE := Ct.own_below hE b8
        replace NV := NV.below b8
        obtain ⟨X, hX⟩ : ∃ X, X = y1.heap.size := ⟨_, rfl⟩
        rw [← hX] at RC TC zX ⊢
        generalize y1.alloc (.cells #[.int .i64 0, .int .i64 0, .int .i64 0, .int .i64 0, .int .i64 0, .int .i64 0, .slice none 0 0, .slice none 0 0, .slice none 0 0, .slice none 0 0, .int .i64 0, .slice none 0 0, .slice none 0 0] 35) = y2 at NV RC TC hE ⊢
        clear hX b8
        try dsimp only
        refine hK.out _ _ ⟨NV.R.cell 0 rfl, NV.R.cell 1 rfl, NV.R.cell 2 rfl, NV.R.cell 3 rfl, NV.R.cell 4 rfl, NV.R.cell 5 rfl⟩ ?_; clear hK K hHeld; intro hHeld; try simp only [Act.put, List.setIfInBounds_toArray, List.set_cons_zero, List.set_cons_succ]
        refine Tk.R 2 (some 14) (.call ⟨.value (.func 46), #[.tmp 13], #[26]⟩) 26 none (fun K hK => ?_)
        go_simp
        refine (l1Copy aK zs.length cK zs _ ((rK.later NV.B (Nat.le_refl _)).more NV.B.size) h1).mono ?_
        rintro e y3 ⟨⟨gk0, c1, rfl, oK⟩, bq30⟩
        obtain ⟨a1, ha1⟩ : ∃ a : Option Addr, a = some ⟨gk0, 0, none⟩ := ⟨_, rfl⟩
        rw [← ha1]
        replace oK := Ct.own_low oK NV.sz
        replace oK : y3.ownsRow (w.heap.size + 2) 2 1 (.slice a1 zs.length c1) zs.length (ints zs) := by rw [ha1]; exact oK
        clear ha1
        replace hE := Ct.own_below hE bq30
        replace RC := RC.below bq30
        replace TC := TC.keep (bq30.block _ TC.lt)
        replace NV := NV.below bq30
        clear bq30
        try dsimp only
        refine hK.out _ _ ⟨NV.R.cell 0 rfl, NV.R.cell 1 rfl, NV.R.cell 2 rfl, NV.R.cell 3 rfl, NV.R.cell 4 rfl, NV.R.cell 5 rfl⟩ ?_; clear hK K hHeld; intro hHeld; try simp only [Act.put, List.setIfInBounds_toArray, List.set_cons_zero, List.set_cons_succ]
        refine Tk.R 5 (some 17) (.call ⟨.builtin .append, #[.tmp 15, .tmp 16], #[27, 27]⟩) 27 none (fun K hK => ?_)
        have sz5 := NV.sz
        have lE := Ct.own_lt hE rfl
        refine step_own_any rfl (.tmp 15) (.tmp 16) 27 rfl (w.heap.size + 2) 4 i0 (.bool false) 1 1 Tryz.underlying27 hi0 hz0 hz1 hz2 rfl (by decide) _ 0 [] rfl hE aL bs.length cL (bools bs) rfl (by rw [Ct.bools_len]; omega) (src_bools ((rL.later NV.B (Nat.le_refl _)).more NV.B.size)) (Ct.oneb bs) (by unfold maxLen; omega) (by omega) (by omega) ?_
        intro v5 y4 hx5 hg5 hn5 ha5
        have TE := Ct.own_ty hE rfl
        rw [Nat.zero_add, List.nil_append] at hx5
        obtain ⟨gl0, c2, rfl, oL⟩ := Ct.ownb_of hx5 (Dg.no_nil hn5 rfl)
        obtain ⟨a2, ha2⟩ : ∃ a : Option Addr, a = some ⟨gl0, 0, none⟩ := ⟨_, rfl⟩
        replace oK := Ct.own_keep (w' := y4) oK fun g hg => hg5.block g (Ct.own_lt oK hg).2 (by intro e; exact Ct.own_ne oK hg TE (by decide) (Option.some.inj e))
        have nX : X ≠ gE := fun e => Ct.own_ne hE rfl TC (by decide) e.symm
        replace TC := TC.keep (hg5.block _ TC.lt (fun e => nX (Option.some.inj e)))
        replace RC := RC.other hg5 nX
        clear nX
        have bg5 : Below (w.heap.size + 2) y3 y4 := (Below.refl _ _).grown hg5 sz5 (by intro k hk; cases hk; exact lE.1)
        replace NV := NV.keep bg5
        rw [← ha2]
        replace oL : y4.ownsRow (w.heap.size + 2) 4 1 (.slice a2 bs.length c2) bs.length (bools bs) := by rw [ha2]; exact oL
        clear hx5 hg5 hn5 ha5 hE sz5 lE TE bg5 ha2
        try dsimp only
        refine hK.out _ _ ⟨NV.R.cell 0 rfl, NV.R.cell 1 rfl, NV.R.cell 2 rfl, NV.R.cell 3 rfl, NV.R.cell 4 rfl, NV.R.cell 5 rfl⟩ ?_; clear hK K hHeld; intro hHeld; try simp only [Act.put, List.setIfInBounds_toArray, List.set_cons_zero, List.set_cons_succ]
        refine Tk.W 6 (some 18) (.build 35 #[(0, .tmp 12), (1, .tmp 14), (2, .tmp 17)]) 35 none ?_
        refine Tk.R 8 none (.store 35 (.tmp 10) (.tmp 18)) 0 none (fun K hK => ?_)
        have e0 := RC.cell 0 rfl
        have e1 := RC.cell 1 rfl
        have e2 := RC.cell 2 rfl
        have e3 := RC.cell 3 rfl
        have e4 := RC.cell 4 rfl
        have e5 := RC.cell 5 rfl
        have e6 := RC.cell 6 rfl
        have e7 := RC.cell 7 rfl
        have e8 := RC.cell 8 rfl
        have e9 := RC.cell 9 rfl
        have e10 := RC.cell 10 rfl
        have e11 := RC.cell 11 rfl
        have e12 := RC.cell 12 rfl
        have f0 := RC.froz 0 rfl
        have f1 := RC.froz 1 rfl
        have f2 := RC.froz 2 rfl
        have f3 := RC.froz 3 rfl
        have f4 := RC.froz 4 rfl
        have f5 := RC.froz 5 rfl
        have f6 := RC.froz 6 rfl
        have f7 := RC.froz 7 rfl
        have f8 := RC.froz 8 rfl
        have f9 := RC.froz 9 rfl
        have f10 := RC.froz 10 rfl
        have f11 := RC.froz 11 rfl
        have f12 := RC.froz 12 rfl
        go_simp
        clear e0 f0 e1 f1 e2 f2 e3 f3 e4 f4 e5 f5 e6 f6 e7 f7 e8 f8 e9 f9 e10 f10 e11 f11 e12 f12
        have NE : Nf w (((((((((((((y4.setCell ⟨X, 0, none⟩ (.int .i64 n)).setCell ⟨X, 1, none⟩ (.int .i64 f)).setCell ⟨X, 2, none⟩ (.int .i64 p)).setCell ⟨X, 3, none⟩ (.int .i64 a)).setCell ⟨X, 4, none⟩ (.int .i64 l)).setCell ⟨X, 5, none⟩ (.int .i64 m)).setCell ⟨X, 6, none⟩ (.slice a1 zs.length c1)).setCell ⟨X, 7, none⟩ (.slice a2 bs.length c2)).setCell ⟨X, 8, none⟩ (.slice none 0 0)).setCell ⟨X, 9, none⟩ (.slice none 0 0)).setCell ⟨X, 10, none⟩ (.int .i64 0)).setCell ⟨X, 11, none⟩ (.slice none 0 0)).setCell ⟨X, 12, none⟩ (.slice none 0 0)) n f p a l m X a1 c1 a2 c2 zs bs (.slice none 0 0) := ⟨NV.keep (sets_below zX [.int .i64 n, .int .i64 f, .int .i64 p, .int .i64 a, .int .i64 l, .int .i64 m, .slice a1 zs.length c1, .slice a2 bs.length c2, .slice none 0 0, .slice none 0 0, .int .i64 0, .slice none 0 0, .slice none 0 0] 0 y4 (Below.refl _ _)), sets_room [.int .i64 n, .int .i64 f, .int .i64 p, .int .i64 a, .int .i64 l, .int .i64 m, .slice a1 zs.length c1, .slice a2 bs.length c2, .slice none 0 0, .slice none 0 0, .int .i64 0, .slice none 0 0, .slice none 0 0] 0 y4 [] [.int .i64 0, .int .i64 0, .int .i64 0, .int .i64 0, .int .i64 0, .int .i64 0, .slice none 0 0, .slice none 0 0, .slice none 0 0, .slice none 0 0, .int .i64 0, .slice none 0 0, .slice none 0 0] RC rfl rfl, Ct.own_keep oK fun g hg => sets_heap (Ct.own_ne oK hg TC (by decide)) [.int .i64 n, .int .i64 f, .int .i64 p, .int .i64 a, .int .i64 l, .int .i64 m, .slice a1 zs.length c1, .slice a2 bs.length c2, .slice none 0 0, .slice none 0 0, .int .i64 0, .slice none 0 0, .slice none 0 0] 0 y4, Ct.own_keep oL fun g hg => sets_heap (Ct.own_ne oL hg TC (by decide)) [.int .i64 n, .int .i64 f, .int .i64 p, .int .i64 a, .int .i64 l, .int .i64 m, .slice a1 zs.length c1, .slice a2 bs.length c2, .slice none 0 0, .slice none 0 0, .int .i64 0, .slice none 0 0, .slice none 0 0] 0 y4, zX, fun g hg => Ct.own_ne oK hg TC (by decide), fun g hg => Ct.own_ne oL hg TC (by decide)⟩
        generalize (((((((((((((y4.setCell ⟨X, 0, none⟩ (.int .i64 n)).setCell ⟨X, 1, none⟩ (.int .i64 f)).setCell ⟨X, 2, none⟩ (.int .i64 p)).setCell ⟨X, 3, none⟩ (.int .i64 a)).setCell ⟨X, 4, none⟩ (.int .i64 l)).setCell ⟨X, 5, none⟩ (.int .i64 m)).setCell ⟨X, 6, none⟩ (.slice a1 zs.length c1)).setCell ⟨X, 7, none⟩ (.slice a2 bs.length c2)).setCell ⟨X, 8, none⟩ (.slice none 0 0)).setCell ⟨X, 9, none⟩ (.slice none 0 0)).setCell ⟨X, 10, none⟩ (.int .i64 0)).setCell ⟨X, 11, none⟩ (.slice none 0 0)).setCell ⟨X, 12, none⟩ (.slice none 0 0)) = y5 at NE ⊢
        replace NV := NE.V
        try dsimp only
        refine hK.out _ _ ⟨NV.R.cell 0 rfl, NV.R.cell 1 rfl, NV.R.cell 2 rfl, NV.R.cell 3 rfl, NV.R.cell 4 rfl, NV.R.cell 5 rfl⟩ ?_; clear hK K hHeld; intro hHeld; try simp only [Act.put, List.setIfInBounds_toArray, List.set_cons_zero, List.set_cons_succ]
        refine wpAnyH_done (by kernel_rfl) ?_ _
        refine NoPanic.normal ?_
        clear hHeld
        go_wp2_with fail
        go_meet
        case rel => exact ⟨X, a1, c1, a2, c2, rfl, NE⟩
    · go_simp
      have b8 := (Below.refl y0.heap.size y0).alloc (Nat.le_refl _) (.cells #[.int .i64 0, .int .i64 0, .int .i64 0, .int .i64 0, .int .i64 0, .int .i64 0, .slice none 0 0, .slice none 0 0, .slice none 0 0, .slice none 0 0, .int .i64 0, .slice none 0 0, .slice none 0 0] 35)
      have RC := Room.new y0 [.int .i64 0, .int .i64 0, .int .i64 0, .int .i64 0, .int .i64 0, .int .i64 0, .slice none 0 0, .slice none 0 0, .slice none 0 0, .slice none 0 0, .int .i64 0, .slice none 0 0, .slice none 0 0] 35
      have TC := Ty.new y0 35 #[.int .i64 0, .int .i64 0, .int .i64 0, .int .i64 0, .int .i64 0, .int .i64 0, .slice none 0 0, .slice none 0 0, .slice none 0 0, .slice none 0 0, .int .i64 0, .slice none 0 0, .slice none 0 0]
      have zX := NV.sz
      replace NV := NV.below b8
      obtain ⟨X, hX⟩ : ∃ X, X = y0.heap.size := ⟨_, rfl⟩
      rw [← hX] at RC TC zX ⊢
      generalize y0.alloc (.cells #[.int .i64 0, .int .i64 0, .int .i64 0, .int .i64 0, .int .i64 0, .int .i64 0, .slice none 0 0, .slice none 0 0, .slice none 0 0, .slice none 0 0, .int .i64 0, .slice none 0 0, .slice none 0 0] 35) = y1 at NV RC TC  ⊢
      clear hX b8
      try dsimp only
      refine hK.out _ _ ⟨NV.R.cell 0 rfl, NV.R.cell 1 rfl, NV.R.cell 2 rfl, NV.R.cell 3 rfl, NV.R.cell 4 rfl, NV.R.cell 5 rfl⟩ ?_; clear hK K hHeld; intro hHeld; try simp only [Act.put, List.setIfInBounds_toArray, List.set_cons_zero, List.set_cons_succ]
      refine wpAnyH_ready (rs := [2, 3]) (by kernel_rfl) (by simp) ?_
      refine (AllReadyH.cons (o := ⟨some 14, .call ⟨.value (.func 46), #[.tmp 13], #[26]⟩, 26, _, _, none⟩) rfl (fun K hK => ?_) (AllReadyH.cons (o := ⟨some 15, .buildSlice 27 0 #[], 27, _, _, none⟩) rfl (fun K hK => ?_) AllReadyH.nil))
      · go_simp
        refine (l1Copy aK zs.length cK zs _ ((rK.later NV.B (Nat.le_refl _)).more NV.B.size) h1).mono ?_
        rintro e y2 ⟨⟨gk0, c1, rfl, oK⟩, bq35⟩
        obtain ⟨a1, ha1⟩ : ∃ a : Option Addr, a = some ⟨gk0, 0, none⟩ := ⟨_, rfl⟩
        rw [← ha1]
        replace oK := Ct.own_low oK NV.sz
        replace oK : y2.ownsRow (w.heap.size + 2) 2 1 (.slice a1 zs.length c1) zs.length (ints zs) := by rw [ha1]; exact oK
        clear ha1
        replace RC := RC.below bq35
        replace TC := TC.keep (bq35.block _ TC.lt)
        replace NV := NV.below bq35
        clear bq35
        try dsimp only
        refine hK.out _ _ ⟨NV.R.cell 0 rfl, NV.R.cell 1 rfl, NV.R.cell 2 rfl, NV.R.cell 3 rfl, NV.R.cell 4 rfl, NV.R.cell 5 rfl⟩ ?_; clear hK K hHeld; intro hHeld; try simp only [Act.put, List.setIfInBounds_toArray, List.set_cons_zero, List.set_cons_succ]
        refine Tk.R 3 (some 15) (.buildSlice 27 0 #[]) 27 none (fun K hK => ?_)
        go_simp
        have b3 := (Below.refl y2.heap.size y2).alloc (Nat.le_refl _) (.cells #[] 4)
        have hE : (y2.alloc (.cells #[] 4)).ownsRow (w.heap.size + 2) 4 1 (.slice (some ⟨y2.heap.size, 0, none⟩) 0 0) 0 [] := World.ownsRow_made y2 #[] 0 NV.sz (by unfold maxLen; omega) rfl
        replace oK := Ct.own_below oK b3
        replace RC := RC.below b3
        replace TC := TC.keep (b3.block _ TC.lt)
        replace NV := NV.below b3
        obtain ⟨gE, hgE⟩ : ∃ gE, gE = y2.heap.size := ⟨_, rfl⟩
        rw [← hgE] at hE ⊢
        generalize y2.alloc (.cells #[] 4) = y3 at hE NV oK RC TC ⊢
        clear hgE b3
        try dsimp only
        refine hK.out _ _ ⟨NV.R.cell 0 rfl, NV.R.cell 1 rfl, NV.R.cell 2 rfl, NV.R.cell 3 rfl, NV.R.cell 4 rfl, NV.R.cell 5 rfl⟩ ?_; clear hK K hHeld; intro hHeld; try simp only [Act.put, List.setIfInBounds_toArray, List.set_cons_zero, List.set_cons_succ]
        refine Tk.R 5 (some 17) (.call ⟨.builtin .append, #[.tmp 15, .tmp 16], #[27, 27]⟩) 27 none (fun K hK => ?_)
        have sz5 := NV.sz
        have lE := Ct.own_lt hE rfl
        refine step_own_any rfl (.tmp 15) (.tmp 16) 27 rfl (w.heap.size + 2) 4 i0 (.bool false) 1 1 Tryz.underlying27 hi0 hz0 hz1 hz2 rfl (by decide) _ 0 [] rfl hE aL bs.length cL (bools bs) rfl (by rw [Ct.bools_len]; omega) (src_bools ((rL.later NV.B (Nat.le_refl _)).more NV.B.size)) (Ct.oneb bs) (by unfold maxLen; omega) (by omega) (by omega) ?_
        intro v5 y4 hx5 hg5 hn5 ha5
        have TE := Ct.own_ty hE rfl
        rw [Nat.zero_add, List.nil_append] at hx5
        obtain ⟨gl0, c2, rfl, oL⟩ := Ct.ownb_of hx5 (Dg.no_nil hn5 rfl)
        obtain ⟨a2, ha2⟩ : ∃ a : Option Addr, a = some ⟨gl0, 0, none⟩ := ⟨_, rfl⟩
        replace oK := Ct.own_keep (w' := y4) oK fun g hg => hg5.block g (Ct.own_lt oK hg).2 (by intro e; exact Ct.own_ne oK hg TE (by decide) (Option.some.inj e))
        have nX : X ≠ gE := fun e => Ct.own_ne hE rfl TC (by decide) e.symm
        replace TC := TC.keep (hg5.block _ TC.lt (fun e => nX (Option.some.inj e)))
        replace RC := RC.other hg5 nX
        clear nX
        have bg5 : Below (w.heap.size + 2) y3 y4 := (Below.refl _ _).grown hg5 sz5 (by intro k hk; cases hk; exact lE.1)
        replace NV := NV.keep bg5
        rw [← ha2]
        replace oL : y4.ownsRow (w.heap.size + 2) 4 1 (.slice a2 bs.length c2) bs.length (bools bs) := by rw [ha2]; exact oL
        clear hx5 hg5 hn5 ha5 hE sz5 lE TE bg5 ha2
        try dsimp only
        refine hK.out _ _ ⟨NV.R.cell 0 rfl, NV.R.cell 1 rfl, NV.R.cell 2 rfl, NV.R.cell 3 rfl, NV.R.cell 4 rfl, NV.R.cell 5 rfl⟩ ?_; clear hK K hHeld; intro hHeld; try simp only [Act.put, List.setIfInBounds_toArray, List.set_cons_zero, List.set_cons_succ]
        refine Tk.W 6 (some 18) (.build 35 #[(0, .tmp 12), (1, .tmp 14), (2, .tmp 17)]) 35 none ?_
        refine Tk.R 8 none (.store 35 (.tmp 10) (.tmp 18)) 0 none (fun K hK => ?_)
        have e0 := RC.cell 0 rfl
        have e1 := RC.cell 1 rfl
        have e2 := RC.cell 2 rfl
        have e3 := RC.cell 3 rfl
        have e4 := RC.cell 4 rfl
        have e5 := RC.cell 5 rfl
        have e6 := RC.cell 6 rfl
        have e7 := RC.cell 7 rfl
        have e8 := RC.cell 8 rfl
        have e9 := RC.cell 9 rfl
        have e10 := RC.cell 10 rfl
        have e11 := RC.cell 11 rfl
        have e12 := RC.cell 12 rfl
        have f0 := RC.froz 0 rfl
        have f1 := RC.froz 1 rfl
        have f2 := RC.froz 2 rfl
        have f3 := RC.froz 3 rfl
        have f4 := RC.froz 4 rfl
        have f5 := RC.froz 5 rfl
        have f6 := RC.froz 6 rfl
        have f7 := RC.froz 7 rfl
        have f8 := RC.froz 8 rfl
        have f9 := RC.froz 9 rfl
        have f10 := RC.froz 10 rfl
        have f11 := RC.froz 11 rfl
        have f12 := RC.froz 12 rfl
        go_simp
        clear e0 f0 e1 f1 e2 f2 e3 f3 e4 f4 e5 f5 e6 f6 e7 f7 e8 f8 e9 f9 e10 f10 e11 f11 e12 f12
        have NE : Nf w (((((((((((((y4.setCell ⟨X, 0, none⟩ (.int .i64 n)).setCell ⟨X, 1, none⟩ (.int .i64 f)).setCell ⟨X, 2, none⟩ (.int .i64 p)).setCell ⟨X, 3, none⟩ (.int .i64 a)).setCell ⟨X, 4, none⟩ (.int .i64 l)).setCell ⟨X, 5, none⟩ (.int .i64 m)).setCell ⟨X, 6, none⟩ (.slice a1 zs.length c1)).setCell ⟨X, 7, none⟩ (.slice a2 bs.length c2)).setCell ⟨X, 8, none⟩ (.slice none 0 0)).setCell ⟨X, 9, none⟩ (.slice none 0 0)).setCell ⟨X, 10, none⟩ (.int .i64 0)).setCell ⟨X, 11, none⟩ (.slice none 0 0)).setCell ⟨X, 12, none⟩ (.slice none 0 0)) n f p a l m X a1 c1 a2 c2 zs bs (.slice none 0 0) := ⟨NV.keep (sets_below zX [.int .i64 n, .int .i64 f, .int .i64 p, .int .i64 a, .int .i64 l, .int .i64 m, .slice a1 zs.length c1, .slice a2 bs.length c2, .slice none 0 0, .slice none 0 0, .int .i64 0, .slice none 0 0, .slice none 0 0] 0 y4 (Below.refl _ _)), sets_room [.int .i64 n, .int .i64 f, .int .i64 p, .int .i64 a, .int .i64 l, .int .i64 m, .slice a1 zs.length c1, .slice a2 bs.length c2, .slice none 0 0, .slice none 0 0, .int .i64 0, .slice none 0 0, .slice none 0 0] 0 y4 [] [.int .i64 0, .int .i64 0, .int .i64 0, .int .i64 0, .int .i64 0, .int .i64 0, .slice none 0 0, .slice none 0 0, .slice none 0 0, .slice none 0 0, .int .i64 0, .slice none 0 0, .slice none 0 0] RC rfl rfl, Ct.own_keep oK fun g hg => sets_heap (Ct.own_ne oK hg TC (by decide)) [.int .i64 n, .int .i64 f, .int .i64 p, .int .i64 a, .int .i64 l, .int .i64 m, .slice a1 zs.length c1, .slice a2 bs.length c2, .slice none 0 0, .slice none 0 0, .int .i64 0, .slice none 0 0, .slice none 0 0] 0 y4, Ct.own_keep oL fun g hg => sets_heap (Ct.own_ne oL hg TC (by decide)) [.int .i64 n, .int .i64 f, .int .i64 p, .int .i64 a, .int .i64 l, .int .i64 m, .slice a1 zs.length c1, .slice a2 bs.length c2, .slice none 0 0, .slice none 0 0, .int .i64 0, .slice none 0 0, .slice none 0 0] 0 y4, zX, fun g hg => Ct.own_ne oK hg TC (by decide), fun g hg => Ct.own_ne oL hg TC (by decide)⟩
        generalize (((((((((((((y4.setCell ⟨X, 0, none⟩ (.int .i64 n)).setCell ⟨X, 1, none⟩ (.int .i64 f)).setCell ⟨X, 2, none⟩ (.int .i64 p)).setCell ⟨X, 3, none⟩ (.int .i64 a)).setCell ⟨X, 4, none⟩ (.int .i64 l)).setCell ⟨X, 5, none⟩ (.int .i64 m)).setCell ⟨X, 6, none⟩ (.slice a1 zs.length c1)).setCell ⟨X, 7, none⟩ (.slice a2 bs.length c2)).setCell ⟨X, 8, none⟩ (.slice none 0 0)).setCell ⟨X, 9, none⟩ (.slice none 0 0)).setCell ⟨X, 10, none⟩ (.int .i64 0)).setCell ⟨X, 11, none⟩ (.slice none 0 0)).setCell ⟨X, 12, none⟩ (.slice none 0 0)) = y5 at NE ⊢
        replace NV := NE.V
        try dsimp only
        refine hK.out _ _ ⟨NV.R.cell 0 rfl, NV.R.cell 1 rfl, NV.R.cell 2 rfl, NV.R.cell 3 rfl, NV.R.cell 4 rfl, NV.R.cell 5 rfl⟩ ?_; clear hK K hHeld; intro hHeld; try simp only [Act.put, List.setIfInBounds_toArray, List.set_cons_zero, List.set_cons_succ]
        refine wpAnyH_done (by kernel_rfl) ?_ _
        refine NoPanic.normal ?_
        clear hHeld
        go_wp2_with fail
        go_meet
        case rel => exact ⟨X, a1, c1, a2, c2, rfl, NE⟩
      · go_simp
        have b3 := (Below.refl y1.heap.size y1).alloc (Nat.le_refl _) (.cells #[] 4)
        have hE : (y1.alloc (.cells #[] 4)).ownsRow (w.heap.size + 2) 4 1 (.slice (some ⟨y1.heap.size, 0, none⟩) 0 0) 0 [] := World.ownsRow_made y1 #[] 0 NV.sz (by unfold maxLen; omega) rfl
        replace RC := RC.below b3
        replace TC := TC.keep (b3.block _ TC.lt)
        replace NV := NV.below b3
        obtain ⟨gE, hgE⟩ : ∃ gE, gE = y1.heap.size := ⟨_, rfl⟩
        rw [← hgE] at hE ⊢
        generalize y1.alloc (.cells #[] 4) = y2 at hE NV RC TC ⊢
        clear hgE b3
        try dsimp only
        refine hK.out _ _ ⟨NV.R.cell 0 rfl, NV.R.cell 1 rfl, NV.R.cell 2 rfl, NV.R.cell 3 rfl, NV.R.cell 4 rfl, NV.R.cell 5 rfl⟩ ?_; clear hK K hHeld; intro hHeld; try simp only [Act.put, List.setIfInBounds_toArray, List.set_cons_zero, List.set_cons_succ]
        refine Tk.R 2 (some 14) (.call ⟨.value (.func 46), #[.tmp 13], #[26]⟩) 26 none (fun K hK => ?_)
        go_simp
        refine (l1Copy aK zs.length cK zs _ ((rK.later NV.B (Nat.le_refl _)).more NV.B.size) h1).mono ?_
        rintro e y3 ⟨⟨gk0, c1, rfl, oK⟩, bq41⟩
        obtain ⟨a1, ha1⟩ : ∃ a : Option Addr, a = some ⟨gk0, 0, none⟩ := ⟨_, rfl⟩
        rw [← ha1]
        replace oK := Ct.own_low oK NV.sz
        replace oK : y3.ownsRow (w.heap.size + 2) 2 1 (.slice a1 zs.length c1) zs.length (ints zs) := by rw [ha1]; exact oK
        clear ha1
        replace hE := Ct.own_below hE bq41
        replace RC := RC.below bq41
        replace TC := TC.keep (bq41.block _ TC.lt)
        replace NV := NV.below bq41
        clear bq41
        try dsimp only
        refine hK.out _ _ ⟨NV.R.cell 0 rfl, NV.R.cell 1 rfl, NV.R.cell 2 rfl, NV.R.cell 3 rfl, NV.R.cell 4 rfl, NV.R.cell 5 rfl⟩ ?_; clear hK K hHeld; intro hHeld; try simp only [Act.put, List.setIfInBounds_toArray, List.set_cons_zero, List.set_cons_succ]
        refine Tk.R 5 (some 17) (.call ⟨.builtin .append, #[.tmp 15, .tmp 16], #[27, 27]⟩) 27 none (fun K hK => ?_)
        have sz5 := NV.sz
        have lE := Ct.own_lt hE rfl
        refine step_own_any rfl (.tmp 15) (.tmp 16) 27 rfl (w.heap.size + 2) 4 i0 (.bool false) 1 1 Tryz.underlying27 hi0 hz0 hz1 hz2 rfl (by decide) _ 0 [] rfl hE aL bs.length cL (bools bs) rfl (by rw [Ct.bools_len]; omega) (src_bools ((rL.later NV.B (Nat.le_refl _)).more NV.B.size)) (Ct.oneb bs) (by unfold maxLen; omega) (by omega) (by omega) ?_
        intro v5 y4 hx5 hg5 hn5 ha5
        have TE := Ct.own_ty hE rfl
        rw [Nat.zero_add, List.nil_append] at hx5
        obtain ⟨gl0, c2, rfl, oL⟩ := Ct.ownb_of hx5 (Dg.no_nil hn5 rfl)
        obtain ⟨a2, ha2⟩ : ∃ a : Option Addr, a = some ⟨gl0, 0, none⟩ := ⟨_, rfl⟩
        replace oK := Ct.own_keep (w' := y4) oK fun g hg => hg5.block g (Ct.own_lt oK hg).2 (by intro e; exact Ct.own_ne oK hg TE (by decide) (Option.some.inj e))
        have nX : X ≠ gE := fun e => Ct.own_ne hE rfl TC (by decide) e.symm
        replace TC := TC.keep (hg5.block _ TC.lt (fun e => nX (Option.some.inj e)))
        replace RC := RC.other hg5 nX
        clear nX
        have bg5 : Below (w.heap.size + 2) y3 y4 := (Below.refl _ _).grown hg5 sz5 (by intro k hk; cases hk; exact lE.1)
        replace NV := NV.keep bg5
        rw [← ha2]
        replace oL : y4.ownsRow (w.heap.size + 2) 4 1 (.slice a2 bs.length c2) bs.length (bools bs) := by rw [ha2]; exact oL
        clear hx5 hg5 hn5 ha5 hE sz5 lE TE bg5 ha2
        try dsimp only
        refine hK.out _ _ ⟨NV.R.cell 0 rfl, NV.R.cell 1 rfl, NV.R.cell 2 rfl, NV.R.cell 3 rfl, NV.R.cell 4 rfl, NV.R.cell 5 rfl⟩ ?_; clear hK K hHeld; intro hHeld; try simp only [Act.put, List.setIfInBounds_toArray, List.set_cons_zero, List.set_cons_succ]
        refine Tk.W 6 (some 18) (.build 35 #[(0, .tmp 12), (1, .tmp 14), (2, .tmp 17)]) 35 none ?_
        refine Tk.R 8 none (.store 35 (.tmp 10) (.tmp 18)) 0 none (fun K hK => ?_)
        have e0 := RC.cell 0 rfl
        have e1 := RC.cell 1 rfl
        have e2 := RC.cell 2 rfl
        have e3 := RC.cell 3 rfl
        have e4 := RC.cell 4 rfl
        have e5 := RC.cell 5 rfl
        have e6 := RC.cell 6 rfl
        have e7 := RC.cell 7 rfl
        have e8 := RC.cell 8 rfl
        have e9 := RC.cell 9 rfl
        have e10 := RC.cell 10 rfl
        have e11 := RC.cell 11 rfl
        have e12 := RC.cell 12 rfl
        have f0 := RC.froz 0 rfl
        have f1 := RC.froz 1 rfl
        have f2 := RC.froz 2 rfl
        have f3 := RC.froz 3 rfl
        have f4 := RC.froz 4 rfl
        have f5 := RC.froz 5 rfl
        have f6 := RC.froz 6 rfl
        have f7 := RC.froz 7 rfl
        have f8 := RC.froz 8 rfl
        have f9 := RC.froz 9 rfl
        have f10 := RC.froz 10 rfl
        have f11 := RC.froz 11 rfl
        have f12 := RC.froz 12 rfl
        go_simp
        clear e0 f0 e1 f1 e2 f2 e3 f3 e4 f4 e5 f5 e6 f6 e7 f7 e8 f8 e9 f9 e10 f10 e11 f11 e12 f12
        have NE : Nf w (((((((((((((y4.setCell ⟨X, 0, none⟩ (.int .i64 n)).setCell ⟨X, 1, none⟩ (.int .i64 f)).setCell ⟨X, 2, none⟩ (.int .i64 p)).setCell ⟨X, 3, none⟩ (.int .i64 a)).setCell ⟨X, 4, none⟩ (.int .i64 l)).setCell ⟨X, 5, none⟩ (.int .i64 m)).setCell ⟨X, 6, none⟩ (.slice a1 zs.length c1)).setCell ⟨X, 7, none⟩ (.slice a2 bs.length c2)).setCell ⟨X, 8, none⟩ (.slice none 0 0)).setCell ⟨X, 9, none⟩ (.slice none 0 0)).setCell ⟨X, 10, none⟩ (.int .i64 0)).setCell ⟨X, 11, none⟩ (.slice none 0 0)).setCell ⟨X, 12, none⟩ (.slice none 0 0)) n f p a l m X a1 c1 a2 c2 zs bs (.slice none 0 0) := ⟨NV.keep (sets_below zX [.int .i64 n, .int .i64 f, .int .i64 p, .int .i64 a, .int .i64 l, .int .i64 m, .slice a1 zs.length c1, .slice a2 bs.length c2, .slice none 0 0, .slice none 0 0, .int .i64 0, .slice none 0 0, .slice none 0 0] 0 y4 (Below.refl _ _)), sets_room [.int .i64 n, .int .i64 f, .int .i64 p, .int .i64 a, .int .i64 l, .int .i64 m, .slice a1 zs.length c1, .slice a2 bs.length c2, .slice none 0 0, .slice none 0 0, .int .i64 0, .slice none 0 0, .slice none 0 0] 0 y4 [] [.int .i64 0, .int .i64 0, .int .i64 0, .int .i64 0, .int .i64 0, .int .i64 0, .slice none 0 0, .slice none 0 0, .slice none 0 0, .slice none 0 0, .int .i64 0, .slice none 0 0, .slice none 0 0] RC rfl rfl, Ct.own_keep oK fun g hg => sets_heap (Ct.own_ne oK hg TC (by decide)) [.int .i64 n, .int .i64 f, .int .i64 p, .int .i64 a, .int .i64 l, .int .i64 m, .slice a1 zs.length c1, .slice a2 bs.length c2, .slice none 0 0, .slice none 0 0, .int .i64 0, .slice none 0 0, .slice none 0 0] 0 y4, Ct.own_keep oL fun g hg => sets_heap (Ct.own_ne oL hg TC (by decide)) [.int .i64 n, .int .i64 f, .int .i64 p, .int .i64 a, .int .i64 l, .int .i64 m, .slice a1 zs.length c1, .slice a2 bs.length c2, .slice none 0 0, .slice none 0 0, .int .i64 0, .slice none 0 0, .slice none 0 0] 0 y4, zX, fun g hg => Ct.own_ne oK hg TC (by decide), fun g hg => Ct.own_ne oL hg TC (by decide)⟩
        generalize (((((((((((((y4.setCell ⟨X, 0, none⟩ (.int .i64 n)).setCell ⟨X, 1, none⟩ (.int .i64 f)).setCell ⟨X, 2, none⟩ (.int .i64 p)).setCell ⟨X, 3, none⟩ (.int .i64 a)).setCell ⟨X, 4, none⟩ (.int .i64 l)).setCell ⟨X, 5, none⟩ (.int .i64 m)).setCell ⟨X, 6, none⟩ (.slice a1 zs.length c1)).setCell ⟨X, 7, none⟩ (.slice a2 bs.length c2)).setCell ⟨X, 8, none⟩ (.slice none 0 0)).setCell ⟨X, 9, none⟩ (.slice none 0 0)).setCell ⟨X, 10, none⟩ (.int .i64 0)).setCell ⟨X, 11, none⟩ (.slice none 0 0)).setCell ⟨X, 12, none⟩ (.slice none 0 0)) = y5 at NE ⊢
        replace NV := NE.V
        try dsimp only
        refine hK.out _ _ ⟨NV.R.cell 0 rfl, NV.R.cell 1 rfl, NV.R.cell 2 rfl, NV.R.cell 3 rfl, NV.R.cell 4 rfl, NV.R.cell 5 rfl⟩ ?_; clear hK K hHeld; intro hHeld; try simp only [Act.put, List.setIfInBounds_toArray, List.set_cons_zero, List.set_cons_succ]
        refine wpAnyH_done (by kernel_rfl) ?_ _
        refine NoPanic.normal ?_
        clear hHeld
        go_wp2_with fail
        go_meet
        case rel => exact ⟨X, a1, c1, a2, c2, rfl, NE⟩
  case rest =>
    obtain ⟨X, a1, c1, a2, c2, rfl, HE⟩ := hcut
    have NC := HE.out
    clear HE NV
    have HLT := hid NC.lt
    obtain ⟨i1, hi1, hp0, hp1, hp2⟩ := info_parts info_peer
    go_wp2_with fail
    go_loopw [11] (fun i w' => (∃ (k : Nat) (v : Value), k ≤ os.length ∧ i = .int .i64 k ∧ Hid (Nf w w' n f p a l m X a1 c1 a2 c2 zs bs v ∧ OwnP w' wc.heap.size v k (os.take k) ∧ wc.heap.size ≤ w'.heap.size))) (fun i _ => os.length - (intOf i).toNat)
    case atStart => exact ⟨0, .slice none 0 0, Nat.zero_le _, rfl, ⟨NC, World.ownsRow_nil _ _ _ _, Nat.le_refl _⟩⟩
    case round =>
      clear NC
      obtain ⟨k, v, hk, rfl, HH⟩ := hrel
      obtain ⟨NC, OP, hsz⟩ := HH.out
      clear HH
      by_cases hl : k < os.length
      · have hi : (k : Int) < (os.length : Int) := by omega
        obtain ⟨_, hz9 | ⟨bO, oO, rfl, hbO, hcO⟩⟩ := rO
        · omega
        have cellO : ∀ {v : Value} {w2 : World}, Nf w w2 n f p a l m X a1 c1 a2 c2 zs bs v → w2.cell? ⟨bO, oO + k, none⟩ = some (.int .i64 (el os k)) := fun h => by rw [h.V.B.cell (p := ⟨bO, oO + k, none⟩) hbO]; exact hcO k hl
        clear hcO
        go_wp2_with fail
        replace NC := NC.below (Below.refl _ _).drew
        replace OP := Ct.own_below OP (Below.refl _ _).drew
        replace hsz : wc.heap.size ≤ wr.drew.heap.size := hsz
        refine wp_region_noPanic ?_
        refine wp_region_held_drew (S := (fun w' => w'.cell? ⟨bO, oO + k, none⟩ = some (.int .i64 (el os k)))) (by kernel_rfl) (cellO NC) (fun hHeld => ?_)
        generalize wr.drew = wd at hHeld NC OP hsz ⊢
        have cO := hHeld
        refine Tk.W 0 (some 25) (.fieldAddr 35 (.tmp 10) 3) 0 none ?_
        refine Tk.W 2 (some 27) (.move (.tmp 2)) 26 none ?_
        refine Tk.W 3 (some 28) (.move (.tmp 11)) 3 none ?_
        refine Tk.W 4 (some 29) (.indexAddr 26 (.tmp 27) (.tmp 28)) 0 none ?_
        refine Tk.W 5 (some 30) (.load 2 (.tmp 29)) 2 none ?_
        refine Tk.W 6 (some 31) (.build 44 #[(0, .tmp 30), (1, .const (.int .i64 1))]) 44 none ?_
        refine wpAnyH_ready (rs := [1, 7]) (by kernel_rfl) (by simp) ?_
        refine (AllReadyH.cons (o := ⟨some 26, .load 30 (.tmp 25), 30, _, _, none⟩) rfl (fun K hK => ?_) (AllReadyH.cons (o := ⟨some 32, .buildSlice 30 1 #[(0, .tmp 31)], 30, _, _, none⟩) rfl (fun K hK => ?_) AllReadyH.nil))
        · have c8 := NC.C.cell 8 rfl
          go_simp
          clear c8
          try dsimp only
          refine hK.out _ _ cO ?_; clear hK K hHeld; intro hHeld; try simp only [Act.put, List.setIfInBounds_toArray, List.set_cons_zero, List.set_cons_succ]
          refine Tk.R 7 (some 32) (.buildSlice 30 1 #[(0, .tmp 31)]) 30 none (fun K hK => ?_)
          go_simp
          have b7 := (Below.refl wd.heap.size wd).alloc (Nat.le_refl _) (.cells #[.int .i64 (el os k), .int .i64 1, .bool false, .slice none 0 0] 44)
          have hn7 := one_peer wd (el os k)
          have e7 := World.size_alloc wd (.cells #[.int .i64 (el os k), .int .i64 1, .bool false, .slice none 0 0] 44)
          replace NC := NC.below b7
          replace OP := Ct.own_below OP b7
          have cO := cellO NC
          obtain ⟨g7, hg7⟩ : ∃ g7, g7 = wd.heap.size := ⟨_, rfl⟩
          rw [← hg7] at hn7 ⊢
          replace hsz : wc.heap.size ≤ (wd.alloc (.cells #[.int .i64 (el os k), .int .i64 1, .bool false, .slice none 0 0] 44)).heap.size := by omega
          generalize wd.alloc (.cells #[.int .i64 (el os k), .int .i64 1, .bool false, .slice none 0 0] 44) = x7 at NC OP hn7 hsz cO ⊢
          clear b7 hg7 e7
          try dsimp only
          refine hK.out _ _ cO ?_; clear hK K hHeld; intro hHeld; try simp only [Act.put, List.setIfInBounds_toArray, List.set_cons_zero, List.set_cons_succ]
          refine Tk.R 8 (some 33) (.call ⟨.builtin .append, #[.tmp 26, .tmp 32], #[30, 30]⟩) 30 none (fun K hK => ?_)
          refine Ow.step_own_at rfl (.tmp 26) (.tmp 32) 30 rfl wc.heap.size 44 i1 (.agg #[.int .i64 0, .int .i64 0, .bool false, .slice none 0 0]) 4 48 Tryz.underlying30 hi1 hp0 hp1 hp2 rfl (by decide) v k (pcs (os.take k)) rfl OP ⟨g7, 0, none⟩ 1 1 [.int .i64 (el os k), .int .i64 1, .bool false, .slice none 0 0] rfl rfl hn7 (by simp [Value.oneCell']) (by unfold maxLen; omega) (by omega) hsz ?_
          intro v8 x8 hx8 hg8 hn8 ha8
          obtain ⟨aP, cP, rfl⟩ := Ct.own_sl hx8
          have bw := (Below.refl wc.heap.size x7).grown hg8 hsz (fun g hg => (Ct.own_lt OP hg).1)
          replace NC := NC.keep bw HLT.out
          have OP8 : OwnP x8 wc.heap.size (.slice aP (k + 1) cP) (k + 1) (os.take (k + 1)) := by rw [Ow.take_el os k (by omega), OwnP, Ct.pcs_app]; exact hx8
          have cO := cellO NC
          replace hsz := Nat.le_trans hsz bw.size
          clear hx8 hg8 hn8 ha8 bw OP hn7
          try dsimp only
          refine hK.out _ _ cO ?_; clear hK K hHeld; intro hHeld; try simp only [Act.put, List.setIfInBounds_toArray, List.set_cons_zero, List.set_cons_succ]
          refine Tk.W 9 (some 34) (.fieldAddr 35 (.tmp 10) 3) 0 none ?_
          refine Tk.R 10 none (.store 30 (.tmp 34) (.tmp 33)) 0 none (fun K hK => ?_)
          have c8 := NC.C.cell 8 rfl
          have f8 := NC.C.froz 8 rfl
          go_simp
          clear c8 f8
          replace NC := NC.put (.slice aP (k + 1) cP)
          have hxl := HLT.out.2.1
          have OP9 : OwnP (x8.setCell ⟨X, 8, none⟩ (.slice aP (k + 1) cP)) wc.heap.size (.slice aP (k + 1) cP) (k + 1) (os.take (k + 1)) := Ct.own_keep OP8 fun g hg => Below.heap_setCell _ _ _ _ (by have := (Ct.own_lt OP8 hg).1; simp; omega)
          replace hsz : wc.heap.size ≤ (x8.setCell ⟨X, 8, none⟩ (.slice aP (k + 1) cP)).heap.size := by simpa [World.setCell] using hsz
          have cO := cellO NC
          clear OP8 hxl
          generalize x8.setCell ⟨X, 8, none⟩ (.slice aP (k + 1) cP) = x10 at NC OP9 hsz cO ⊢
          try dsimp only
          refine hK.out _ _ cO ?_; clear hK K hHeld; intro hHeld; try simp only [Act.put, List.setIfInBounds_toArray, List.set_cons_zero, List.set_cons_succ]
          refine wpAnyH_done (by kernel_rfl) ?_ _
          refine NoPanic.normal ?_
          clear hHeld
          go_wp2
          go_roundw
          case rel => exact ⟨k + 1, .slice aP (k + 1) cP, by omega, by go_num, ⟨NC, OP9, hsz⟩⟩
          case measure => simp [intOf]; omega
        · go_simp
          have b7 := (Below.refl wd.heap.size wd).alloc (Nat.le_refl _) (.cells #[.int .i64 (el os k), .int .i64 1, .bool false, .slice none 0 0] 44)
          have hn7 := one_peer wd (el os k)
          have e7 := World.size_alloc wd (.cells #[.int .i64 (el os k), .int .i64 1, .bool false, .slice none 0 0] 44)
          replace NC := NC.below b7
          replace OP := Ct.own_below OP b7
          have cO := cellO NC
          obtain ⟨g7, hg7⟩ : ∃ g7, g7 = wd.heap.size := ⟨_, rfl⟩
          rw [← hg7] at hn7 ⊢
          replace hsz : wc.heap.size ≤ (wd.alloc (.cells #[.int .i64 (el os k), .int .i64 1, .bool false, .slice none 0 0] 44)).heap.size := by omega
          generalize wd.alloc (.cells #[.int .i64 (el os k), .int .i64 1, .bool false, .slice none 0 0] 44) = x7 at NC OP hn7 hsz cO ⊢
          clear b7 hg7 e7
          try dsimp only
          refine hK.out _ _ cO ?_; clear hK K hHeld; intro hHeld; try simp only [Act.put, List.setIfInBounds_toArray, List.set_cons_zero, List.set_cons_succ]
          refine Tk.R 1 (some 26) (.load 30 (.tmp 25)) 30 none (fun K hK => ?_)
          have c8 := NC.C.cell 8 rfl
          go_simp
          clear c8
          try dsimp only
          refine hK.out _ _ cO ?_; clear hK K hHeld; intro hHeld; try simp only [Act.put, List.setIfInBounds_toArray, List.set_cons_zero, List.set_cons_succ]
          refine Tk.R 8 (some 33) (.call ⟨.builtin .append, #[.tmp 26, .tmp 32], #[30, 30]⟩) 30 none (fun K hK => ?_)
          refine Ow.step_own_at rfl (.tmp 26) (.tmp 32) 30 rfl wc.heap.size 44 i1 (.agg #[.int .i64 0, .int .i64 0, .bool false, .slice none 0 0]) 4 48 Tryz.underlying30 hi1 hp0 hp1 hp2 rfl (by decide) v k (pcs (os.take k)) rfl OP ⟨g7, 0, none⟩ 1 1 [.int .i64 (el os k), .int .i64 1, .bool false, .slice none 0 0] rfl rfl hn7 (by simp [Value.oneCell']) (by unfold maxLen; omega) (by omega) hsz ?_
          intro v8 x8 hx8 hg8 hn8 ha8
          obtain ⟨aP, cP, rfl⟩ := Ct.own_sl hx8
          have bw := (Below.refl wc.heap.size x7).grown hg8 hsz (fun g hg => (Ct.own_lt OP hg).1)
          replace NC := NC.keep bw HLT.out
          have OP8 : OwnP x8 wc.heap.size (.slice aP (k + 1) cP) (k + 1) (os.take (k + 1)) := by rw [Ow.take_el os k (by omega), OwnP, Ct.pcs_app]; exact hx8
          have cO := cellO NC
          replace hsz := Nat.le_trans hsz bw.size
          clear hx8 hg8 hn8 ha8 bw OP hn7
          try dsimp only
          refine hK.out _ _ cO ?_; clear hK K hHeld; intro hHeld; try simp only [Act.put, List.setIfInBounds_toArray, List.set_cons_zero, List.set_cons_succ]
          refine Tk.W 9 (some 34) (.fieldAddr 35 (.tmp 10) 3) 0 none ?_
          refine Tk.R 10 none (.store 30 (.tmp 34) (.tmp 33)) 0 none (fun K hK => ?_)
          have c8 := NC.C.cell 8 rfl
          have f8 := NC.C.froz 8 rfl
          go_simp
          clear c8 f8
          replace NC := NC.put (.slice aP (k + 1) cP)
          have hxl := HLT.out.2.1
          have OP9 : OwnP (x8.setCell ⟨X, 8, none⟩ (.slice aP (k + 1) cP)) wc.heap.size (.slice aP (k + 1) cP) (k + 1) (os.take (k + 1)) := Ct.own_keep OP8 fun g hg => Below.heap_setCell _ _ _ _ (by have := (Ct.own_lt OP8 hg).1; simp; omega)
          replace hsz : wc.heap.size ≤ (x8.setCell ⟨X, 8, none⟩ (.slice aP (k + 1) cP)).heap.size := by simpa [World.setCell] using hsz
          have cO := cellO NC
          clear OP8 hxl
          generalize x8.setCell ⟨X, 8, none⟩ (.slice aP (k + 1) cP) = x10 at NC OP9 hsz cO ⊢
          try dsimp only
          refine hK.out _ _ cO ?_; clear hK K hHeld; intro hHeld; try simp only [Act.put, List.setIfInBounds_toArray, List.set_cons_zero, List.set_cons_succ]
          refine wpAnyH_done (by kernel_rfl) ?_ _
          refine NoPanic.normal ?_
          clear hHeld
          go_wp2
          go_roundw
          case rel => exact ⟨k + 1, .slice aP (k + 1) cP, by omega, by go_num, ⟨NC, OP9, hsz⟩⟩
          case measure => simp [intOf]; omega
      · have hi : ¬ (k : Int) < (os.length : Int) := by omega
        obtain rfl : k = os.length := by omega
        rw [List.take_of_length_le (Nat.le_refl _)] at OP
        obtain ⟨aP, cP, rfl, PP⟩ := OwnP.peers OP
        have e0 := NC.C.cell 0 rfl
        have e1 := NC.C.cell 1 rfl
        have e2 := NC.C.cell 2 rfl
        have e3 := NC.C.cell 3 rfl
        have e4 := NC.C.cell 4 rfl
        have e5 := NC.C.cell 5 rfl
        have e6 := NC.C.cell 6 rfl
        have e7 := NC.C.cell 7 rfl
        have e8 := NC.C.cell 8 rfl
        have e9 := NC.C.cell 9 rfl
        have e10 := NC.C.cell 10 rfl
        have e11 := NC.C.cell 11 rfl
        have e12 := NC.C.cell 12 rfl
        go_wp2_with fail
        clear e0 e1 e2 e3 e4 e5 e6 e7 e8 e9 e10 e11 e12
        refine (courtS n f p a l m zs os bs a1 a2 aP c1 c2 cP _ (own_rowI NC.K) (own_rowB NC.L) PP h1 h2 h3).mono ?_
        rintro e w9 ⟨rfl, b9⟩
        replace NC := NC.below b9
        replace OP := Ct.own_below OP b9
        clear b9 PP
        have hszw := NC.V.sz
        cases hN : NO n f p a l m zs bs os with
        | false =>
          have HN := hid hN
          clear hN
          have d0 := NC.V.Z.cell 0 rfl
          have d1 := NC.V.Z.cell 1 rfl
          have d2 := NC.V.Z.cell 2 rfl
          have d3 := NC.V.Z.cell 3 rfl
          have d4 := NC.V.Z.cell 4 rfl
          have d5 := NC.V.Z.cell 5 rfl
          have d6 := NC.V.Z.cell 6 rfl
          have d7 := NC.V.Z.cell 7 rfl
          have d8 := NC.V.Z.cell 8 rfl
          have d9 := NC.V.Z.cell 9 rfl
          have d10 := NC.V.Z.cell 10 rfl
          have d11 := NC.V.Z.cell 11 rfl
          have d12 := NC.V.Z.cell 12 rfl
          have f0 := NC.V.Z.froz 0 rfl
          have f1 := NC.V.Z.froz 1 rfl
          have f2 := NC.V.Z.froz 2 rfl
          have f3 := NC.V.Z.froz 3 rfl
          have f4 := NC.V.Z.froz 4 rfl
          have f5 := NC.V.Z.froz 5 rfl
          have f6 := NC.V.Z.froz 6 rfl
          have f7 := NC.V.Z.froz 7 rfl
          have f8 := NC.V.Z.froz 8 rfl
          have f9 := NC.V.Z.froz 9 rfl
          have f10 := NC.V.Z.froz 10 rfl
          have f11 := NC.V.Z.froz 11 rfl
          have f12 := NC.V.Z.froz 12 rfl
          go_wp2_with fail
          clear d0 f0 d1 f1 d2 f2 d3 f3 d4 f4 d5 f5 d6 f6 d7 f7 d8 f8 d9 f9 d10 f10 d11 f11 d12 f12
          have bz : Below w.heap.size w (((((((((((((w9.setCell ⟨(w.heap.size + 1), 0, none⟩ (.int .i64 0)).setCell ⟨(w.heap.size + 1), 1, none⟩ (.int .i64 0)).setCell ⟨(w.heap.size + 1), 2, none⟩ (.int .i64 0)).setCell ⟨(w.heap.size + 1), 3, none⟩ (.int .i64 0)).setCell ⟨(w.heap.size + 1), 4, none⟩ (.int .i64 0)).setCell ⟨(w.heap.size + 1), 5, none⟩ (.int .i64 0)).setCell ⟨(w.heap.size + 1), 6, none⟩ (.slice none 0 0)).setCell ⟨(w.heap.size + 1), 7, none⟩ (.slice none 0 0)).setCell ⟨(w.heap.size + 1), 8, none⟩ (.slice none 0 0)).setCell ⟨(w.heap.size + 1), 9, none⟩ (.slice none 0 0)).setCell ⟨(w.heap.size + 1), 10, none⟩ (.int .i64 0)).setCell ⟨(w.heap.size + 1), 11, none⟩ (.slice none 0 0)).setCell ⟨(w.heap.size + 1), 12, none⟩ (.slice none 0 0)) := sets_below (by omega) [.int .i64 0, .int .i64 0, .int .i64 0, .int .i64 0, .int .i64 0, .int .i64 0, .slice none 0 0, .slice none 0 0, .slice none 0 0, .slice none 0 0, .int .i64 0, .slice none 0 0, .slice none 0 0] 0 w9 NC.V.B
          have RZ : Room (((((((((((((w9.setCell ⟨(w.heap.size + 1), 0, none⟩ (.int .i64 0)).setCell ⟨(w.heap.size + 1), 1, none⟩ (.int .i64 0)).setCell ⟨(w.heap.size + 1), 2, none⟩ (.int .i64 0)).setCell ⟨(w.heap.size + 1), 3, none⟩ (.int .i64 0)).setCell ⟨(w.heap.size + 1), 4, none⟩ (.int .i64 0)).setCell ⟨(w.heap.size + 1), 5, none⟩ (.int .i64 0)).setCell ⟨(w.heap.size + 1), 6, none⟩ (.slice none 0 0)).setCell ⟨(w.heap.size + 1), 7, none⟩ (.slice none 0 0)).setCell ⟨(w.heap.size + 1), 8, none⟩ (.slice none 0 0)).setCell ⟨(w.heap.size + 1), 9, none⟩ (.slice none 0 0)).setCell ⟨(w.heap.size + 1), 10, none⟩ (.int .i64 0)).setCell ⟨(w.heap.size + 1), 11, none⟩ (.slice none 0 0)).setCell ⟨(w.heap.size + 1), 12, none⟩ (.slice none 0 0)) (w.heap.size + 1) [.int .i64 0, .int .i64 0, .int .i64 0, .int .i64 0, .int .i64 0, .int .i64 0, .slice none 0 0, .slice none 0 0, .slice none 0 0, .slice none 0 0, .int .i64 0, .slice none 0 0, .slice none 0 0] := sets_room [.int .i64 0, .int .i64 0, .int .i64 0, .int .i64 0, .int .i64 0, .int .i64 0, .slice none 0 0, .slice none 0 0, .slice none 0 0, .slice none 0 0, .int .i64 0, .slice none 0 0, .slice none 0 0] 0 w9 [] [.int .i64 0, .int .i64 0, .int .i64 0, .int .i64 0, .int .i64 0, .int .i64 0, .slice none 0 0, .slice none 0 0, .slice none 0 0, .slice none 0 0, .int .i64 0, .slice none 0 0, .slice none 0 0] NC.V.Z rfl rfl
          generalize (((((((((((((w9.setCell ⟨(w.heap.size + 1), 0, none⟩ (.int .i64 0)).setCell ⟨(w.heap.size + 1), 1, none⟩ (.int .i64 0)).setCell ⟨(w.heap.size + 1), 2, none⟩ (.int .i64 0)).setCell ⟨(w.heap.size + 1), 3, none⟩ (.int .i64 0)).setCell ⟨(w.heap.size + 1), 4, none⟩ (.int .i64 0)).setCell ⟨(w.heap.size + 1), 5, none⟩ (.int .i64 0)).setCell ⟨(w.heap.size + 1), 6, none⟩ (.slice none 0 0)).setCell ⟨(w.heap.size + 1), 7, none⟩ (.slice none 0 0)).setCell ⟨(w.heap.size + 1), 8, none⟩ (.slice none 0 0)).setCell ⟨(w.heap.size + 1), 9, none⟩ (.slice none 0 0)).setCell ⟨(w.heap.size + 1), 10, none⟩ (.int .i64 0)).setCell ⟨(w.heap.size + 1), 11, none⟩ (.slice none 0 0)).setCell ⟨(w.heap.size + 1), 12, none⟩ (.slice none 0 0)) = wz at bz RZ  ⊢
          refine bodyPost_ret (v := .tuple #[Z13, .bool false]) (ret13v Tryz.results11 rfl rfl RZ) rfl ⟨.inr ⟨HN.out, rfl⟩, bz⟩
        | true =>
          have HN := hid hN
          have hno := no_of hN
          have hpos : 0 < zs.length ∧ 0 < bs.length ∧ 0 < os.length := by have := hno.1.1; omega
          obtain ⟨gK, rfl⟩ := own_some NC.K hpos.1
          obtain ⟨gL, rfl⟩ := own_some NC.L hpos.2.1
          obtain ⟨gP, rfl⟩ := own_some OP hpos.2.2
          clear hN hno hpos
          have e0 := NC.C.cell 0 rfl
          have e1 := NC.C.cell 1 rfl
          have e2 := NC.C.cell 2 rfl
          have e3 := NC.C.cell 3 rfl
          have e4 := NC.C.cell 4 rfl
          have e5 := NC.C.cell 5 rfl
          have e6 := NC.C.cell 6 rfl
          have e7 := NC.C.cell 7 rfl
          have e8 := NC.C.cell 8 rfl
          have e9 := NC.C.cell 9 rfl
          have e10 := NC.C.cell 10 rfl
          have e11 := NC.C.cell 11 rfl
          have e12 := NC.C.cell 12 rfl
          have d0 := NC.V.Z.cell 0 rfl
          have d1 := NC.V.Z.cell 1 rfl
          have d2 := NC.V.Z.cell 2 rfl
          have d3 := NC.V.Z.cell 3 rfl
          have d4 := NC.V.Z.cell 4 rfl
          have d5 := NC.V.Z.cell 5 rfl
          have d6 := NC.V.Z.cell 6 rfl
          have d7 := NC.V.Z.cell 7 rfl
          have d8 := NC.V.Z.cell 8 rfl
          have d9 := NC.V.Z.cell 9 rfl
          have d10 := NC.V.Z.cell 10 rfl
          have d11 := NC.V.Z.cell 11 rfl
          have d12 := NC.V.Z.cell 12 rfl
          have f0 := NC.V.Z.froz 0 rfl
          have f1 := NC.V.Z.froz 1 rfl
          have f2 := NC.V.Z.froz 2 rfl
          have f3 := NC.V.Z.froz 3 rfl
          have f4 := NC.V.Z.froz 4 rfl
          have f5 := NC.V.Z.froz 5 rfl
          have f6 := NC.V.Z.froz 6 rfl
          have f7 := NC.V.Z.froz 7 rfl
          have f8 := NC.V.Z.froz 8 rfl
          have f9 := NC.V.Z.froz 9 rfl
          have f10 := NC.V.Z.froz 10 rfl
          have f11 := NC.V.Z.froz 11 rfl
          have f12 := NC.V.Z.froz 12 rfl
          go_wp2_with fail
          clear e0 e1 e2 e3 e4 e5 e6 e7 e8 e9 e10 e11 e12
          clear d0 f0 d1 f1 d2 f2 d3 f3 d4 f4 d5 f5 d6 f6 d7 f7 d8 f8 d9 f9 d10 f10 d11 f11 d12 f12
          have bz : Below w.heap.size w (((((((((((((w9.setCell ⟨(w.heap.size + 1), 0, none⟩ (.int .i64 n)).setCell ⟨(w.heap.size + 1), 1, none⟩ (.int .i64 f)).setCell ⟨(w.heap.size + 1), 2, none⟩ (.int .i64 p)).setCell ⟨(w.heap.size + 1), 3, none⟩ (.int .i64 a)).setCell ⟨(w.heap.size + 1), 4, none⟩ (.int .i64 l)).setCell ⟨(w.heap.size + 1), 5, none⟩ (.int .i64 m)).setCell ⟨(w.heap.size + 1), 6, none⟩ (.slice (some ⟨gK, 0, none⟩) zs.length c1)).setCell ⟨(w.heap.size + 1), 7, none⟩ (.slice (some ⟨gL, 0, none⟩) bs.length c2)).setCell ⟨(w.heap.size + 1), 8, none⟩ (.slice (some ⟨gP, 0, none⟩) os.length cP)).setCell ⟨(w.heap.size + 1), 9, none⟩ (.slice none 0 0)).setCell ⟨(w.heap.size + 1), 10, none⟩ (.int .i64 0)).setCell ⟨(w.heap.size + 1), 11, none⟩ (.slice none 0 0)).setCell ⟨(w.heap.size + 1), 12, none⟩ (.slice none 0 0)) := sets_below (by omega) [.int .i64 n, .int .i64 f, .int .i64 p, .int .i64 a, .int .i64 l, .int .i64 m, .slice (some ⟨gK, 0, none⟩) zs.length c1, .slice (some ⟨gL, 0, none⟩) bs.length c2, .slice (some ⟨gP, 0, none⟩) os.length cP, .slice none 0 0, .int .i64 0, .slice none 0 0, .slice none 0 0] 0 w9 NC.V.B
          have RZ : Room (((((((((((((w9.setCell ⟨(w.heap.size + 1), 0, none⟩ (.int .i64 n)).setCell ⟨(w.heap.size + 1), 1, none⟩ (.int .i64 f)).setCell ⟨(w.heap.size + 1), 2, none⟩ (.int .i64 p)).setCell ⟨(w.heap.size + 1), 3, none⟩ (.int .i64 a)).setCell ⟨(w.heap.size + 1), 4, none⟩ (.int .i64 l)).setCell ⟨(w.heap.size + 1), 5, none⟩ (.int .i64 m)).setCell ⟨(w.heap.size + 1), 6, none⟩ (.slice (some ⟨gK, 0, none⟩) zs.length c1)).setCell ⟨(w.heap.size + 1), 7, none⟩ (.slice (some ⟨gL, 0, none⟩) bs.length c2)).setCell ⟨(w.heap.size + 1), 8, none⟩ (.slice (some ⟨gP, 0, none⟩) os.length cP)).setCell ⟨(w.heap.size + 1), 9, none⟩ (.slice none 0 0)).setCell ⟨(w.heap.size + 1), 10, none⟩ (.int .i64 0)).setCell ⟨(w.heap.size + 1), 11, none⟩ (.slice none 0 0)).setCell ⟨(w.heap.size + 1), 12, none⟩ (.slice none 0 0)) (w.heap.size + 1) [.int .i64 n, .int .i64 f, .int .i64 p, .int .i64 a, .int .i64 l, .int .i64 m, .slice (some ⟨gK, 0, none⟩) zs.length c1, .slice (some ⟨gL, 0, none⟩) bs.length c2, .slice (some ⟨gP, 0, none⟩) os.length cP, .slice none 0 0, .int .i64 0, .slice none 0 0, .slice none 0 0] := sets_room [.int .i64 n, .int .i64 f, .int .i64 p, .int .i64 a, .int .i64 l, .int .i64 m, .slice (some ⟨gK, 0, none⟩) zs.length c1, .slice (some ⟨gL, 0, none⟩) bs.length c2, .slice (some ⟨gP, 0, none⟩) os.length cP, .slice none 0 0, .int .i64 0, .slice none 0 0, .slice none 0 0] 0 w9 [] [.int .i64 0, .int .i64 0, .int .i64 0, .int .i64 0, .int .i64 0, .int .i64 0, .slice none 0 0, .slice none 0 0, .slice none 0 0, .slice none 0 0, .int .i64 0, .slice none 0 0, .slice none 0 0] NC.V.Z rfl rfl
          have NM : Nm (((((((((((((w9.setCell ⟨(w.heap.size + 1), 0, none⟩ (.int .i64 n)).setCell ⟨(w.heap.size + 1), 1, none⟩ (.int .i64 f)).setCell ⟨(w.heap.size + 1), 2, none⟩ (.int .i64 p)).setCell ⟨(w.heap.size + 1), 3, none⟩ (.int .i64 a)).setCell ⟨(w.heap.size + 1), 4, none⟩ (.int .i64 l)).setCell ⟨(w.heap.size + 1), 5, none⟩ (.int .i64 m)).setCell ⟨(w.heap.size + 1), 6, none⟩ (.slice (some ⟨gK, 0, none⟩) zs.length c1)).setCell ⟨(w.heap.size + 1), 7, none⟩ (.slice (some ⟨gL, 0, none⟩) bs.length c2)).setCell ⟨(w.heap.size + 1), 8, none⟩ (.slice (some ⟨gP, 0, none⟩) os.length cP)).setCell ⟨(w.heap.size + 1), 9, none⟩ (.slice none 0 0)).setCell ⟨(w.heap.size + 1), 10, none⟩ (.int .i64 0)).setCell ⟨(w.heap.size + 1), 11, none⟩ (.slice none 0 0)).setCell ⟨(w.heap.size + 1), 12, none⟩ (.slice none 0 0)) (w.heap.size + 2) gK gL gP zs bs os := by
            have kK := own_room NC.K
            have kL := own_room NC.L
            have kP := own_room OP
            have q1 := HLT.out.2.2.1 gK rfl
            have q2 := HLT.out.2.2.2 gL rfl
            have q3 := kP.lo
            have q4 := HLT.out.1
            refine ⟨kK.keep (sets_heap (by have := kK.lo; omega) [.int .i64 n, .int .i64 f, .int .i64 p, .int .i64 a, .int .i64 l, .int .i64 m, .slice (some ⟨gK, 0, none⟩) zs.length c1, .slice (some ⟨gL, 0, none⟩) bs.length c2, .slice (some ⟨gP, 0, none⟩) os.length cP, .slice none 0 0, .int .i64 0, .slice none 0 0, .slice none 0 0] 0 w9) (Nat.le_of_eq (sets_size _ [.int .i64 n, .int .i64 f, .int .i64 p, .int .i64 a, .int .i64 l, .int .i64 m, .slice (some ⟨gK, 0, none⟩) zs.length c1, .slice (some ⟨gL, 0, none⟩) bs.length c2, .slice (some ⟨gP, 0, none⟩) os.length cP, .slice none 0 0, .int .i64 0, .slice none 0 0, .slice none 0 0] 0 w9).symm), kL.keep (sets_heap (by have := kL.lo; omega) [.int .i64 n, .int .i64 f, .int .i64 p, .int .i64 a, .int .i64 l, .int .i64 m, .slice (some ⟨gK, 0, none⟩) zs.length c1, .slice (some ⟨gL, 0, none⟩) bs.length c2, .slice (some ⟨gP, 0, none⟩) os.length cP, .slice none 0 0, .int .i64 0, .slice none 0 0, .slice none 0 0] 0 w9) (Nat.le_of_eq (sets_size _ [.int .i64 n, .int .i64 f, .int .i64 p, .int .i64 a, .int .i64 l, .int .i64 m, .slice (some ⟨gK, 0, none⟩) zs.length c1, .slice (some ⟨gL, 0, none⟩) bs.length c2, .slice (some ⟨gP, 0, none⟩) os.length cP, .slice none 0 0, .int .i64 0, .slice none 0 0, .slice none 0 0] 0 w9).symm), (kP.low (by omega)).keep (sets_heap (by omega) [.int .i64 n, .int .i64 f, .int .i64 p, .int .i64 a, .int .i64 l, .int .i64 m, .slice (some ⟨gK, 0, none⟩) zs.length c1, .slice (some ⟨gL, 0, none⟩) bs.length c2, .slice (some ⟨gP, 0, none⟩) os.length cP, .slice none 0 0, .int .i64 0, .slice none 0 0, .slice none 0 0] 0 w9) (Nat.le_of_eq (sets_size _ [.int .i64 n, .int .i64 f, .int .i64 p, .int .i64 a, .int .i64 l, .int .i64 m, .slice (some ⟨gK, 0, none⟩) zs.length c1, .slice (some ⟨gL, 0, none⟩) bs.length c2, .slice (some ⟨gP, 0, none⟩) os.length cP, .slice none 0 0, .int .i64 0, .slice none 0 0, .slice none 0 0] 0 w9).symm), Ct.own_ne NC.K rfl (Ct.own_ty NC.L rfl) (by decide), by omega, by omega⟩
          generalize (((((((((((((w9.setCell ⟨(w.heap.size + 1), 0, none⟩ (.int .i64 n)).setCell ⟨(w.heap.size + 1), 1, none⟩ (.int .i64 f)).setCell ⟨(w.heap.size + 1), 2, none⟩ (.int .i64 p)).setCell ⟨(w.heap.size + 1), 3, none⟩ (.int .i64 a)).setCell ⟨(w.heap.size + 1), 4, none⟩ (.int .i64 l)).setCell ⟨(w.heap.size + 1), 5, none⟩ (.int .i64 m)).setCell ⟨(w.heap.size + 1), 6, none⟩ (.slice (some ⟨gK, 0, none⟩) zs.length c1)).setCell ⟨(w.heap.size + 1), 7, none⟩ (.slice (some ⟨gL, 0, none⟩) bs.length c2)).setCell ⟨(w.heap.size + 1), 8, none⟩ (.slice (some ⟨gP, 0, none⟩) os.length cP)).setCell ⟨(w.heap.size + 1), 9, none⟩ (.slice none 0 0)).setCell ⟨(w.heap.size + 1), 10, none⟩ (.int .i64 0)).setCell ⟨(w.heap.size + 1), 11, none⟩ (.slice none 0 0)).setCell ⟨(w.heap.size + 1), 12, none⟩ (.slice none 0 0)) = wz at bz RZ NM ⊢
          refine bodyPost_ret (v := .tuple #[V13 n f p a l m (.slice (some ⟨gK, 0, none⟩) zs.length c1) (.slice (some ⟨gL, 0, none⟩) bs.length c2) (.slice (some ⟨gP, 0, none⟩) os.length cP), .bool true]) (ret13v Tryz.results11 rfl rfl RZ) rfl ⟨.inl ⟨HN.out, gK, c1, gL, c2, gP, cP, rfl, NM.low (by omega)⟩, bz⟩

end Go.Proofs.YtimakfokgcnklaaGreat.Nw
