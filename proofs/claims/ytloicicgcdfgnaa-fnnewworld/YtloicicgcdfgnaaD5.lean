/-
  A right world drawn (spec.l5Draw): as many kinds and offs as nodes, in new memory; nothing that was there is written but the cursor.
-/
import Derived.Test.YtloicicgcdfgnaaDl
import Derived.Test.YtloicicgcdfgnaaOffs
import Derived.Deep.Cut
import Derived.Test.YtloicicgcdfgnaaTk
namespace Go.Proofs.Ytloicicgcdfgnaa.Dr
open Go.ChangeShapes Go.WideShapes Go.ChangeAt Go.RowKit
open Ls (el Row)
open Ow (Has Own ints)
open Bo (eb HasB)
open Wl (KL bad z9 c9 wld WO)
open Cf (cfg CP CR N1 L1)
set_option linter.unusedVariables false
set_option linter.unusedSimpArgs false

/-- What is known of the memory of a world that was drawn. -/
def Drawn5 (B0 : Nat) (w : World) (n l d r q s : Int) (k gK cK gO cO : Nat) : Prop :=
  (∃ ks os, Has w B0 gK 0 k ks ∧ Own w B0 gO k cO os) ∧ 0 < k ∧ k ≤ 16 ∧ gK ≠ gO ∧ (0 ≤ d ∧ d ≤ 1000000) ∧ 0 ≤ r ∧ r ≤ 1000000
def Rng (x : Int) : Prop := -1000000000000000 ≤ x ∧ x ≤ 1000000000000000
theorem all_rng {zs : List Int} {n : Nat} (hz : zs.length = n) (h : ∀ x ∈ zs, Rng x) : Wl.allIn (-1000000000000000) 1000000000000000 zs n = true := by
  rw [Wl.all_iff]
  intro k hk
  have q := h _ (Wl.el_mem zs k (by omega))
  unfold Rng at q
  unfold Sp.LK
  simp
  exact q
theorem all_kinds (bs : List Bool) (n : Nat) : Wl.allIn 0 2 (KL bs) n = true := by
  rw [Wl.all_iff]
  intro k hk
  rw [Wl.kl_el]
  cases eb bs k <;> rfl
theorem wo_of {n l d r q s : Int} {N : Nat} {bs : List Bool} {zs : List Int} (hn : n = N) (hc : CP n l d r q s = 0) (hz : zs.length = N) (h : ∀ x ∈ zs, Rng x) (hb : (bad (KL bs) N : Int) ≤ l) : WO n l d r q s (KL bs) N zs N 0 = true := by
  unfold WO
  rw [all_kinds, all_rng hz h, hc, hn]
  simp [hb]
  decide

theorem ret9 {fn : Func} {ts : Array Value} {W : World} {R : Nat} {n l d r q s t : Int} {aK aO : Option Addr} {k cK m cO : Nat} (hf : fn.results = #[.cell 2 31]) (h2 : ts[2]? = some (.pointer (some ⟨R, 0, none⟩))) (h : Rm.Room W R (c9 n l d r q s (.slice aK k cK) (.slice aO m cO) t)) :
    (results fn ts).run Try.prog W = .ok (wld n l d r q s (.slice aK k cK) (.slice aO m cO) t) W := by
  have q0 := h.cell 0 rfl
  have q1 := h.cell 1 rfl
  have q2 := h.cell 2 rfl
  have q3 := h.cell 3 rfl
  have q4 := h.cell 4 rfl
  have q5 := h.cell 5 rfl
  have q6 := h.cell 6 rfl
  have q7 := h.cell 7 rfl
  have q8 := h.cell 8 rfl
  simp [results, hf, h2, go_sem, q0, q1, q2, q3, q4, q5, q6, q7, q8]

def Q9 (w : World) (B p : Nat) (a : Option Addr) (len cap : Nat) (F g c N : Nat) (zs : List Int) (six : List Value) (w' : World) : Prop :=
  St w B p a len cap w' ∧ Own w' (F + 1) g N c zs ∧ Rm.Room w' F six ∧ Rm.Room w' w.heap.size z9
section
variable {w W w' : World} {B p : Nat} {a : Option Addr} {len cap F g c N : Nat} {zs : List Int} {six : List Value}
theorem Q9.step (h : Q9 w B p a len cap F g c N zs six W) (st : St w B p a len cap w') (s : Step p W w') (hg : g ≠ p) (hF : F ≠ p) (hR : w.heap.size ≠ p) : Q9 w B p a len cap F g c N zs six w' :=
  ⟨st, own_step h.2.1 s hg, room_step h.2.2.1 s hF, room_step h.2.2.2 s hR⟩
theorem Q9.below (h : Q9 w B p a len cap F g c N zs six W) (hb : Below W.heap.size W w') : Q9 w B p a len cap F g c N zs six w' :=
  ⟨h.1.below hb, h.2.1.later hb h.2.1.lt, h.2.2.1.below hb, h.2.2.2.below hb⟩
end
def E9 (w : World) (B p : Nat) (a : Option Addr) (len cap : Nat) (F X N gK cK gO cO : Nat) (n l d r q s : Int) (wc : World) : Prop :=
  ∃ ks os, St w B p a len cap wc ∧ Rm.Room wc X (c9 n l d r q s (.slice (some ⟨gK, 0, none⟩) N cK) (.slice (some ⟨gO, 0, none⟩) N cO) 0) ∧ Rm.Room wc F [.int .i64 n, .int .i64 l, .int .i64 d, .int .i64 r, .int .i64 q, .int .i64 s] ∧ Rm.Room wc w.heap.size z9 ∧ Has wc w.heap.size gK 0 N ks ∧ Own wc w.heap.size gO N cO os ∧ WO n l d r q s ks N os N 0 = true ∧ gK ≠ gO ∧ X ≠ gK ∧ X ≠ gO ∧ w.heap.size < F ∧ F < X ∧ F < gK ∧ F < gO

set_option maxHeartbeats 16000000 in
set_option maxRecDepth 100000 in
theorem l5Draw (w0 : World) (B p : Nat) (a : Option Addr) (len cap : Nat) (w : World) (st : St w0 B p a len cap w) :
    Calls Try.prog 116 #[.pointer (some ⟨p, 0, none⟩)] w fun e w' => (∃ (n l d r q s : Int) (k gK cK gO cO : Nat), e = .returned (wld n l d r q s (.slice (some ⟨gK, 0, none⟩) k cK) (.slice (some ⟨gO, 0, none⟩) k cO) 0) ∧ Hid (Drawn5 w.heap.size w' n l d r q s k gK cK gO cO)) ∧ St w0 B p a len cap w' ∧ Step p w w' := by
  have hp := st.lt
  have hB := st.le
  have hst := st.step
  obtain ⟨i0, hi0, hz0, hz1, hz2⟩ := info_parts Ls.info
  have stA := st.here.obj (.cells z9.toArray 31)
  have RR := Rm.Room.new w z9 31
  go_enter Try.func116, Try.ntmps116
  go_wp2_with fail
  refine (l4Draw' w B p a len cap _ stA).mono ?_
  rintro e w1 ⟨⟨n, l, d, r, q, s, rfl, HC⟩, st1, s1⟩
  have z1 := s1.size
  simp at z1
  replace RR := room_step RR s1 (by omega)
  clear stA s1
  have hdr := Cf.r1_iff.1 (Cf.cr_zero.1 (Cf.cp_zero.1 HC.out).1).2.2
  have hnl := Cf.n1_iff.1 (Cf.cr_zero.1 (Cf.cp_zero.1 HC.out).1).1
  have hll := Cf.l1_iff.1 (Cf.cr_zero.1 (Cf.cp_zero.1 HC.out).1).2.1
  obtain ⟨N, rfl⟩ : ∃ N : Nat, n = N := ⟨n.toNat, by omega⟩
  have RF := (Rm.Room.new w1 [.int .i64 (N : Int), .int .i64 l, .int .i64 d, .int .i64 r, .int .i64 q, .int .i64 s] 28).alloc (.cells #[] 2)
  replace RR := (RR.alloc (.cells #[.int .i64 (N : Int), .int .i64 l, .int .i64 d, .int .i64 r, .int .i64 q, .int .i64 s] 28)).alloc (.cells #[] 2)
  have stL := (st1.obj (.cells #[.int .i64 (N : Int), .int .i64 l, .int .i64 d, .int .i64 r, .int .i64 q, .int .i64 s] 28)).obj (.cells #[] 2)
  have OA : Own ((w1.alloc (.cells #[.int .i64 (N : Int), .int .i64 l, .int .i64 d, .int .i64 r, .int .i64 q, .int .i64 s] 28)).alloc (.cells #[] 2)) (w1.heap.size + 1) (w1.heap.size + 1) 0 0 [] := Ow.own_made _ _ _ (by simp) (by simp)
  have HI : Hid ((∃ zs, Own ((w1.alloc (.cells #[.int .i64 (N : Int), .int .i64 l, .int .i64 d, .int .i64 r, .int .i64 q, .int .i64 s] 28)).alloc (.cells #[] 2)) (w1.heap.size + 1) (w1.heap.size + 1) 0 0 zs ∧ ∀ x ∈ zs, Rng x) ∧ Rm.Room ((w1.alloc (.cells #[.int .i64 (N : Int), .int .i64 l, .int .i64 d, .int .i64 r, .int .i64 q, .int .i64 s] 28)).alloc (.cells #[] 2)) w1.heap.size [.int .i64 (N : Int), .int .i64 l, .int .i64 d, .int .i64 r, .int .i64 q, .int .i64 s] ∧ Rm.Room ((w1.alloc (.cells #[.int .i64 (N : Int), .int .i64 l, .int .i64 d, .int .i64 r, .int .i64 q, .int .i64 s] 28)).alloc (.cells #[] 2)) w.heap.size z9) := ⟨⟨[], OA, fun x hx => by cases hx⟩, RF, RR⟩
  clear OA RF RR st1
  go_wp2_with fail
  go_loopw [4, 5] (fun v i wr => ∃ (j g c : Nat), j ≤ N ∧ i = .int .i64 (j : Int) ∧ v = .slice (some ⟨g, 0, none⟩) j c ∧ w1.heap.size < g ∧ w1.heap.size + 2 ≤ wr.heap.size ∧ Hid ((∃ zs, Own wr (w1.heap.size + 1) g j c zs ∧ ∀ x ∈ zs, Rng x) ∧ Rm.Room wr w1.heap.size [.int .i64 (N : Int), .int .i64 l, .int .i64 d, .int .i64 r, .int .i64 q, .int .i64 s] ∧ Rm.Room wr w.heap.size z9) ∧ St w B p a len cap wr) (fun _ i _ => N - (intOf i).toNat)
  case atStart => exact ⟨0, w1.heap.size + 1, 0, Nat.zero_le _, rfl, by simp, by omega, by simp, HI, stL⟩
  case round =>
    clear HI stL
    obtain ⟨j, g, c, hj, rfl, rfl, hg, hsz, H, sr⟩ := hrel
    obtain ⟨⟨zs, ho, hz⟩, RF, RR⟩ := H.out
    clear H
    have hzl := ho.data.1
    have c0 := RF.cell 0 rfl
    by_cases hlt : j < N
    · have hi : (j : Int) < (N : Int) := by omega
      go_wp2_with fail
      refine (l1From' w B p a len cap (-30) 30 (by omega) (by omega) (by omega) _ sr).mono ?_
      rintro e w2 ⟨⟨y, rfl, y0, y1⟩, st2, s2⟩
      have z2 := s2.size
      have HO : Hid (Own w2 (w1.heap.size + 1) g j c zs) := own_step ho s2 (by omega)
      replace RF := room_step RF s2 (by omega)
      replace RR := room_step RR s2 (by omega)
      clear c0 ho s2 sr
      go_wp2_with (at_builtin; refine wpList_append_own _ rfl (.tmp 17) (.tmp 20) 29 rfl (w1.heap.size + 1) 2 i0 (.int .i64 0) 1 8 Try.underlying29 hi0 hz0 hz1 hz2 rfl (by decide) _ _ _ rfl (World.ownsRow.alloc (w := w2) HO.out _) ⟨w2.heap.size, 0, none⟩ 1 1 (ints [y]) rfl rfl (Ow.one_new w2 (y) _ _ rfl) (Ow.one _) (by unfold maxLen; omega) (by omega) (by simp; omega) ?_; intro v2 w3 hx2 hg2 hn2; obtain ⟨g2, c2, rfl, ho2⟩ := Ow.more hx2 (Ow.no_nil hn2 rfl); replace hg2 : World.grownBy _ w3 (some g) := hg2; have hg4 := ho2.data.2.1; have hzs := hg2.size; simp at hzs; replace RF := (RF.alloc _).other hg2 (by omega); replace RR := (RR.alloc _).other hg2 (by omega); have st3 := (st2.obj _).grown hg2 (fun x hx => (by cases hx; omega)); clear hx2 hg2 hn2 HO st2)
      refine (l1Once' w B p a len cap 30 (by omega) (by omega) _ st3).mono ?_
      rintro e w4 ⟨⟨t, rfl⟩, st4, s4⟩
      have z4 := s4.size
      replace ho2 := own_step ho2 s4 (by omega)
      replace RF := room_step RF s4 (by omega)
      replace RR := room_step RR s4 (by omega)
      clear st3 s4
      have hz2 : ∀ x ∈ zs ++ [y], Rng x := fun x hx => by
        rcases List.mem_append.1 hx with hx | hx
        · exact hz x hx
        · rw [List.mem_singleton] at hx; subst hx; unfold Rng; omega
      cases t with
      | false =>
        have HF : Hid ((∃ zs, Own w4 (w1.heap.size + 1) g2 (j + 1) c2 zs ∧ ∀ x ∈ zs, Rng x) ∧ Rm.Room w4 w1.heap.size [.int .i64 (N : Int), .int .i64 l, .int .i64 d, .int .i64 r, .int .i64 q, .int .i64 s] ∧ Rm.Room w4 w.heap.size z9) := ⟨⟨_, ho2, hz2⟩, RF, RR⟩
        clear ho2 hz2 RF RR
        go_wp2_with fail
        go_roundw
        case rel => exact ⟨j + 1, g2, c2, by omega, by go_num, rfl, by omega, by omega, HF, st4⟩
        case measure => simp [intOf]; omega
      | true =>
        go_wp2_with fail
        refine (l1From' w B p a len cap 0 1 (by omega) (by omega) (by omega) _ st4).mono ?_
        rintro e w5 ⟨⟨y2, rfl, a0, a1⟩, st5, s5⟩
        have z5 := s5.size
        replace ho2 := own_step ho2 s5 (by omega)
        replace RF := room_step RF s5 (by omega)
        replace RR := room_step RR s5 (by omega)
        clear st4 s5
        have hcj := (ho2.cell j (by omega)).1
        have hfj := (ho2.cell j (by omega)).2
        have hi2 : (j : Int) < (j : Int) + 1 := by omega
        have hR : Rng (y2 * 1999999999999910 - 1000000000000000 + 40) := by unfold Rng; omega
        have ho3 := own_put ho2 (j := j) (by omega) (y2 * 1999999999999910 - 1000000000000000 + 40)
        have HF : Hid ((∃ zs, Own (w5.setCell ⟨g2, j, none⟩ (.int .i64 (y2 * 1999999999999910 - 1000000000000000 + 40))) (w1.heap.size + 1) g2 (j + 1) c2 zs ∧ ∀ x ∈ zs, Rng x) ∧ Rm.Room (w5.setCell ⟨g2, j, none⟩ (.int .i64 (y2 * 1999999999999910 - 1000000000000000 + 40))) w1.heap.size [.int .i64 (N : Int), .int .i64 l, .int .i64 d, .int .i64 r, .int .i64 q, .int .i64 s] ∧ Rm.Room (w5.setCell ⟨g2, j, none⟩ (.int .i64 (y2 * 1999999999999910 - 1000000000000000 + 40))) w.heap.size z9) := ⟨⟨_, ho3, fun x hx => (by rcases List.mem_or_eq_of_mem_set hx with hx | hx; exact hz2 x hx; rw [hx]; exact hR)⟩, RF.setOther (by omega) j _, RR.setOther (by omega) j _⟩
        have st6 := st5.setNew (q := g2) j (by omega) (by omega) (by omega) (.int .i64 (y2 * 1999999999999910 - 1000000000000000 + 40))
        clear ho2 ho3 hz2 RF RR st5
        go_wp2_with fail
        go_roundw
        case rel => exact ⟨j + 1, g2, c2, by omega, by go_num, rfl, by omega, by simp; omega, HF, st6⟩
        case measure => simp [intOf]; omega
    · have hi : ¬ (j : Int) < (N : Int) := by omega
      have e : N = j := by omega
      subst e
      have hgl := ho.lt
      have q0 : Q9 w B p a len cap w1.heap.size g c N zs [.int .i64 (N : Int), .int .i64 l, .int .i64 d, .int .i64 r, .int .i64 q, .int .i64 s] wr.drew := ⟨sr.drew', ho.later (Below.refl _ _).drew ho.lt, RF.drew, RR.drew⟩
      have zA : w1.heap.size + 2 ≤ wr.drew.heap.size ∧ g < wr.drew.heap.size := ⟨hsz, hgl⟩
      clear ho RF RR sr
      have hzN : zs.length = N := hzl
      go_wp2_with fail
      clear c0
      go_cut [6] from 8 (fun p6 wc => ∃ X gK cK gO cO : Nat, p6 = .pointer (some ⟨X, 0, none⟩) ∧ Hid (E9 w B p a len cap w1.heap.size X N gK cK gO cO N l d r q s wc))
      case first =>
        refine wp_region_noPanic ?_
        refine wp_region_held_drew (S := (fun w' => w'.cell? ⟨w1.heap.size, 0, none⟩ = some (.int .i64 (N : Int)) ∧ w'.cell? ⟨w1.heap.size, 1, none⟩ = some (.int .i64 l) ∧ w'.cell? ⟨w1.heap.size, 2, none⟩ = some (.int .i64 d) ∧ w'.cell? ⟨w1.heap.size, 3, none⟩ = some (.int .i64 r) ∧ w'.cell? ⟨w1.heap.size, 4, none⟩ = some (.int .i64 q) ∧ w'.cell? ⟨w1.heap.size, 5, none⟩ = some (.int .i64 s) ∧ Hid (Q9 w B p a len cap w1.heap.size g c N zs [.int .i64 (N : Int), .int .i64 l, .int .i64 d, .int .i64 r, .int .i64 q, .int .i64 s] w'))) (by kernel_rfl) ⟨q0.2.2.1.cell 0 rfl, q0.2.2.1.cell 1 rfl, q0.2.2.1.cell 2 rfl, q0.2.2.1.cell 3 rfl, q0.2.2.1.cell 4 rfl, q0.2.2.1.cell 5 rfl, q0⟩ (fun hHeld => ?_)
        generalize wr.drew = wA at hHeld zA ⊢
        refine Tk.W 0 (some 33) (.load 28 (.tmp 3)) 28 none ?_
        refine Tk.W 1 (some 34) (.move (.tmp 4)) 29 none ?_
        refine Tk.W 2 (some 35) (.move (.tmp 0)) 89 none ?_
        refine Tk.W 3 (some 36) (.fieldAddr 28 (.tmp 3) 0) 0 none ?_
        refine Tk.W 4 (some 37) (.load 2 (.tmp 36)) 2 none ?_
        refine Tk.W 5 (some 38) (.fieldAddr 28 (.tmp 3) 1) 0 none ?_
        refine Tk.W 6 (some 39) (.load 2 (.tmp 38)) 2 none ?_
        refine wpAnyH_ready (rs := [7, 12]) (by kernel_rfl) (by simp) ?_
        refine (AllReadyH.cons (o := ⟨some 40, .call ⟨.value (.func 75), #[.tmp 35, .tmp 37, .tmp 39], #[89, 2, 2]⟩, 35, _, _, none⟩) rfl (fun K hK => ?_) (AllReadyH.cons (o := ⟨some 6, .alloc 31, 0, _, _, none⟩) rfl (fun K hK => ?_) AllReadyH.nil))
        · go_simp
          refine (l5DrawLies w B p a len cap N l (by omega) (by omega) (by omega) (by omega) _ hHeld.2.2.2.2.2.2.out.1).mono ?_
          rintro e wL ⟨⟨gL, rfl, bs, hL, hbad⟩, stn8, sn8⟩
          have zn8 := sn8.size
          have qn8 := Q9.step hHeld.2.2.2.2.2.2.out stn8 sn8 (by omega) (by omega) (by omega)
          have kvn8 := Tk.kv hK (w := wL) ⟨qn8.2.2.1.cell 0 rfl, qn8.2.2.1.cell 1 rfl, qn8.2.2.1.cell 2 rfl, qn8.2.2.1.cell 3 rfl, qn8.2.2.1.cell 4 rfl, qn8.2.2.1.cell 5 rfl, qn8⟩
          have loL := hL.2.1
          have hiL := hL.2.2.1
          clear stn8 sn8
          try dsimp only
          refine hK.out _ _ kvn8 ?_; clear hK K hHeld; intro hHeld; try simp only [Act.put, List.setIfInBounds_toArray, List.set_cons_zero, List.set_cons_succ]
          refine wpAnyH_ready (rs := [8, 12]) (by kernel_rfl) (by simp) ?_
          refine (AllReadyH.cons (o := ⟨some 41, .call ⟨.value (.func 28), #[.tmp 33, .tmp 34, .tmp 40], #[28, 29, 35]⟩, 43, _, _, none⟩) rfl (fun K hK => ?_) (AllReadyH.cons (o := ⟨some 6, .alloc 31, 0, _, _, none⟩) rfl (fun K hK => ?_) AllReadyH.nil))
          · go_simp
            refine (Wl.s_NewWorldO N l d r q s g 0 N c (some ⟨gL, 0, none⟩) N N bs zs _ hzN (fun j hj => by rw [Nat.zero_add]; exact (hHeld.2.2.2.2.2.2.out.2.1.cell j hj).1) hHeld.2.2.2.2.2.2.out.2.1.lt hL.row (by omega) (by omega)).mono ?_
            rintro e wN ⟨⟨-, hTn9⟩, bn9⟩
            obtain ⟨gK, gO, cK, cO, rfl, pK, pO, neKO, -, -⟩ := hTn9 (wo_of rfl HC.out hzN hz hbad)
            have zn9 := bn9.size
            have qn9 := Q9.below hHeld.2.2.2.2.2.2.out bn9
            have kvn9 := Tk.kv hK (w := wN) ⟨qn9.2.2.1.cell 0 rfl, qn9.2.2.1.cell 1 rfl, qn9.2.2.1.cell 2 rfl, qn9.2.2.1.cell 3 rfl, qn9.2.2.1.cell 4 rfl, qn9.2.2.1.cell 5 rfl, qn9⟩
            have loK := pK.2.1
            have hiK := pK.2.2.1
            have loO := pO.data.2.1
            have hiO := pO.lt
            clear bn9 hTn9 hL
            try dsimp only
            refine hK.out _ _ kvn9 ?_; clear hK K hHeld; intro hHeld; try simp only [Act.put, List.setIfInBounds_toArray, List.set_cons_zero, List.set_cons_succ]
            refine Tk.W 9 (some 32) (.move (.tmp 41)) 43 none ?_
            refine Tk.W 10 (some 42) (.extract (.tmp 32) 0) 31 none ?_
            refine Tk.W 11 (some 43) (.extract (.tmp 32) 1) 4 none ?_
            refine Tk.R 12 (some 6) (.alloc 31) 0 none (fun K hK => ?_)
            go_simp
            have bn13 := (Below.refl wN.heap.size wN).alloc (Nat.le_refl _) (.cells #[.int .i64 0, .int .i64 0, .int .i64 0, .int .i64 0, .int .i64 0, .int .i64 0, .slice none 0 0, .slice none 0 0, .int .i64 0] 31)
            have RX := Rm.Room.new wN z9 31
            have lX := RX.lt (by simp)
            have qn13 := Q9.below hHeld.2.2.2.2.2.2.out bn13
            have kvn13 := Tk.kv hK (w := _) ⟨qn13.2.2.1.cell 0 rfl, qn13.2.2.1.cell 1 rfl, qn13.2.2.1.cell 2 rfl, qn13.2.2.1.cell 3 rfl, qn13.2.2.1.cell 4 rfl, qn13.2.2.1.cell 5 rfl, qn13⟩
            have un13pK := pK.2.2.1
            replace pK := pK.later bn13 un13pK
            have un13pO := pO.lt
            replace pO := pO.later bn13 un13pO
            have gX := hHeld.2.2.2.2.2.2.out.2.1.lt
            clear bn13 qn13
            obtain ⟨X, hX⟩ : ∃ X, X = wN.heap.size := ⟨_, rfl⟩
            rw [← hX] at RX lX gX un13pK un13pO ⊢
            generalize wN.alloc (.cells #[.int .i64 0, .int .i64 0, .int .i64 0, .int .i64 0, .int .i64 0, .int .i64 0, .slice none 0 0, .slice none 0 0, .int .i64 0] 31) = wX at kvn13 RX lX pK pO ⊢
            have zn13 : w1.heap.size + 2 ≤ X := by omega
            clear hX
            try dsimp only
            refine hK.out _ _ kvn13 ?_; clear hK K hHeld; intro hHeld; try simp only [Act.put, List.setIfInBounds_toArray, List.set_cons_zero, List.set_cons_succ]
            refine Tk.R 13 none (.store 31 (.tmp 6) (.tmp 42)) 0 none (fun K hK => ?_)
            have f0 := RX.froz 0 rfl
            have f1 := RX.froz 1 rfl
            have f2 := RX.froz 2 rfl
            have f3 := RX.froz 3 rfl
            have f4 := RX.froz 4 rfl
            have f5 := RX.froz 5 rfl
            have f6 := RX.froz 6 rfl
            have f7 := RX.froz 7 rfl
            have f8 := RX.froz 8 rfl
            have e0 := RX.cell 0 rfl
            have e1 := RX.cell 1 rfl
            have e2 := RX.cell 2 rfl
            have e3 := RX.cell 3 rfl
            have e4 := RX.cell 4 rfl
            have e5 := RX.cell 5 rfl
            have e6 := RX.cell 6 rfl
            have e7 := RX.cell 7 rfl
            have e8 := RX.cell 8 rfl
            go_simp
            have RX9 := Rm.over9 RX (.int .i64 (N : Int)) (.int .i64 l) (.int .i64 d) (.int .i64 r) (.int .i64 q) (.int .i64 s) (.slice (some ⟨gK, 0, none⟩) N cK) (.slice (some ⟨gO, 0, none⟩) N cO) (.int .i64 0)
            have qn14 : Q9 w B p a len cap w1.heap.size g c N zs [.int .i64 (N : Int), .int .i64 l, .int .i64 d, .int .i64 r, .int .i64 q, .int .i64 s] _ := ⟨(((((((((hHeld.2.2.2.2.2.2.out.1.setNew (q := X) 0 (by omega) (by omega) (by omega) (.int .i64 (N : Int))).setNew (q := X) 1 (by omega) (by omega) (by omega) (.int .i64 l)).setNew (q := X) 2 (by omega) (by omega) (by omega) (.int .i64 d)).setNew (q := X) 3 (by omega) (by omega) (by omega) (.int .i64 r)).setNew (q := X) 4 (by omega) (by omega) (by omega) (.int .i64 q)).setNew (q := X) 5 (by omega) (by omega) (by omega) (.int .i64 s)).setNew (q := X) 6 (by omega) (by omega) (by omega) (.slice (some ⟨gK, 0, none⟩) N cK)).setNew (q := X) 7 (by omega) (by omega) (by omega) (.slice (some ⟨gO, 0, none⟩) N cO)).setNew (q := X) 8 (by omega) (by omega) (by omega) (.int .i64 0)), (((((((((hHeld.2.2.2.2.2.2.out.2.1.setOther (q := X) (by omega) 0 (.int .i64 (N : Int))).setOther (q := X) (by omega) 1 (.int .i64 l)).setOther (q := X) (by omega) 2 (.int .i64 d)).setOther (q := X) (by omega) 3 (.int .i64 r)).setOther (q := X) (by omega) 4 (.int .i64 q)).setOther (q := X) (by omega) 5 (.int .i64 s)).setOther (q := X) (by omega) 6 (.slice (some ⟨gK, 0, none⟩) N cK)).setOther (q := X) (by omega) 7 (.slice (some ⟨gO, 0, none⟩) N cO)).setOther (q := X) (by omega) 8 (.int .i64 0)), (((((((((hHeld.2.2.2.2.2.2.out.2.2.1.setOther (q := X) (by omega) 0 (.int .i64 (N : Int))).setOther (q := X) (by omega) 1 (.int .i64 l)).setOther (q := X) (by omega) 2 (.int .i64 d)).setOther (q := X) (by omega) 3 (.int .i64 r)).setOther (q := X) (by omega) 4 (.int .i64 q)).setOther (q := X) (by omega) 5 (.int .i64 s)).setOther (q := X) (by omega) 6 (.slice (some ⟨gK, 0, none⟩) N cK)).setOther (q := X) (by omega) 7 (.slice (some ⟨gO, 0, none⟩) N cO)).setOther (q := X) (by omega) 8 (.int .i64 0)), (((((((((hHeld.2.2.2.2.2.2.out.2.2.2.setOther (q := X) (by omega) 0 (.int .i64 (N : Int))).setOther (q := X) (by omega) 1 (.int .i64 l)).setOther (q := X) (by omega) 2 (.int .i64 d)).setOther (q := X) (by omega) 3 (.int .i64 r)).setOther (q := X) (by omega) 4 (.int .i64 q)).setOther (q := X) (by omega) 5 (.int .i64 s)).setOther (q := X) (by omega) 6 (.slice (some ⟨gK, 0, none⟩) N cK)).setOther (q := X) (by omega) 7 (.slice (some ⟨gO, 0, none⟩) N cO)).setOther (q := X) (by omega) 8 (.int .i64 0))⟩
            have kvn14 := Tk.kv hK (w := _) ⟨qn14.2.2.1.cell 0 rfl, qn14.2.2.1.cell 1 rfl, qn14.2.2.1.cell 2 rfl, qn14.2.2.1.cell 3 rfl, qn14.2.2.1.cell 4 rfl, qn14.2.2.1.cell 5 rfl, qn14⟩
            replace pK := (((((((((pK.setOther (q := X) (by omega) 0 (.int .i64 (N : Int))).setOther (q := X) (by omega) 1 (.int .i64 l)).setOther (q := X) (by omega) 2 (.int .i64 d)).setOther (q := X) (by omega) 3 (.int .i64 r)).setOther (q := X) (by omega) 4 (.int .i64 q)).setOther (q := X) (by omega) 5 (.int .i64 s)).setOther (q := X) (by omega) 6 (.slice (some ⟨gK, 0, none⟩) N cK)).setOther (q := X) (by omega) 7 (.slice (some ⟨gO, 0, none⟩) N cO)).setOther (q := X) (by omega) 8 (.int .i64 0))
            replace pO := (((((((((pO.setOther (q := X) (by omega) 0 (.int .i64 (N : Int))).setOther (q := X) (by omega) 1 (.int .i64 l)).setOther (q := X) (by omega) 2 (.int .i64 d)).setOther (q := X) (by omega) 3 (.int .i64 r)).setOther (q := X) (by omega) 4 (.int .i64 q)).setOther (q := X) (by omega) 5 (.int .i64 s)).setOther (q := X) (by omega) 6 (.slice (some ⟨gK, 0, none⟩) N cK)).setOther (q := X) (by omega) 7 (.slice (some ⟨gO, 0, none⟩) N cO)).setOther (q := X) (by omega) 8 (.int .i64 0))
            clear RX qn14 e0 f0 e1 f1 e2 f2 e3 f3 e4 f4 e5 f5 e6 f6 e7 f7 e8 f8
            try dsimp only
            refine hK.out _ _ kvn14 ?_; clear hK K hHeld; intro hHeld; try simp only [Act.put, List.setIfInBounds_toArray, List.set_cons_zero, List.set_cons_succ]
            refine Tk.W 14 (some 7) (.assign (.tmp 43)) 4 none ?_
            refine wpAnyH_done (by kernel_rfl) ?_ _
            refine NoPanic.normal ?_
            have qq := hHeld.2.2.2.2.2.2.out
            clear hHeld
            go_wp2_with fail
            go_meet
            case rel => exact ⟨X, gK, cK, gO, cO, rfl, _, _, qq.1, RX9, qq.2.2.1, qq.2.2.2, pK.mono (by omega), pO.mono (by omega), (wo_of rfl HC.out hzN hz hbad), by omega, by omega, by omega, by omega, by omega, by omega, by omega⟩
          · go_simp
            have bn16 := (Below.refl wL.heap.size wL).alloc (Nat.le_refl _) (.cells #[.int .i64 0, .int .i64 0, .int .i64 0, .int .i64 0, .int .i64 0, .int .i64 0, .slice none 0 0, .slice none 0 0, .int .i64 0] 31)
            have RX := Rm.Room.new wL z9 31
            have lX := RX.lt (by simp)
            have qn16 := Q9.below hHeld.2.2.2.2.2.2.out bn16
            have kvn16 := Tk.kv hK (w := _) ⟨qn16.2.2.1.cell 0 rfl, qn16.2.2.1.cell 1 rfl, qn16.2.2.1.cell 2 rfl, qn16.2.2.1.cell 3 rfl, qn16.2.2.1.cell 4 rfl, qn16.2.2.1.cell 5 rfl, qn16⟩
            have un16hL := hL.2.2.1
            replace hL := hL.later bn16 un16hL
            have gX := hHeld.2.2.2.2.2.2.out.2.1.lt
            clear bn16 qn16
            obtain ⟨X, hX⟩ : ∃ X, X = wL.heap.size := ⟨_, rfl⟩
            rw [← hX] at RX lX gX un16hL ⊢
            generalize wL.alloc (.cells #[.int .i64 0, .int .i64 0, .int .i64 0, .int .i64 0, .int .i64 0, .int .i64 0, .slice none 0 0, .slice none 0 0, .int .i64 0] 31) = wX at kvn16 RX lX hL ⊢
            have zn16 : w1.heap.size + 2 ≤ X := by omega
            clear hX
            try dsimp only
            refine hK.out _ _ kvn16 ?_; clear hK K hHeld; intro hHeld; try simp only [Act.put, List.setIfInBounds_toArray, List.set_cons_zero, List.set_cons_succ]
            refine Tk.R 8 (some 41) (.call ⟨.value (.func 28), #[.tmp 33, .tmp 34, .tmp 40], #[28, 29, 35]⟩) 43 none (fun K hK => ?_)
            go_simp
            refine (Wl.s_NewWorldO N l d r q s g 0 N c (some ⟨gL, 0, none⟩) N N bs zs _ hzN (fun j hj => by rw [Nat.zero_add]; exact (hHeld.2.2.2.2.2.2.out.2.1.cell j hj).1) hHeld.2.2.2.2.2.2.out.2.1.lt hL.row (by omega) (by omega)).mono ?_
            rintro e wN ⟨⟨-, hTn17⟩, bn17⟩
            obtain ⟨gK, gO, cK, cO, rfl, pK, pO, neKO, -, -⟩ := hTn17 (wo_of rfl HC.out hzN hz hbad)
            have zn17 := bn17.size
            have qn17 := Q9.below hHeld.2.2.2.2.2.2.out bn17
            have kvn17 := Tk.kv hK (w := wN) ⟨qn17.2.2.1.cell 0 rfl, qn17.2.2.1.cell 1 rfl, qn17.2.2.1.cell 2 rfl, qn17.2.2.1.cell 3 rfl, qn17.2.2.1.cell 4 rfl, qn17.2.2.1.cell 5 rfl, qn17⟩
            have loK := pK.2.1
            have hiK := pK.2.2.1
            have loO := pO.data.2.1
            have hiO := pO.lt
            replace RX := RX.below bn17
            clear bn17 hTn17 hL
            try dsimp only
            refine hK.out _ _ kvn17 ?_; clear hK K hHeld; intro hHeld; try simp only [Act.put, List.setIfInBounds_toArray, List.set_cons_zero, List.set_cons_succ]
            refine Tk.W 9 (some 32) (.move (.tmp 41)) 43 none ?_
            refine Tk.W 10 (some 42) (.extract (.tmp 32) 0) 31 none ?_
            refine Tk.W 11 (some 43) (.extract (.tmp 32) 1) 4 none ?_
            refine Tk.R 13 none (.store 31 (.tmp 6) (.tmp 42)) 0 none (fun K hK => ?_)
            have f0 := RX.froz 0 rfl
            have f1 := RX.froz 1 rfl
            have f2 := RX.froz 2 rfl
            have f3 := RX.froz 3 rfl
            have f4 := RX.froz 4 rfl
            have f5 := RX.froz 5 rfl
            have f6 := RX.froz 6 rfl
            have f7 := RX.froz 7 rfl
            have f8 := RX.froz 8 rfl
            have e0 := RX.cell 0 rfl
            have e1 := RX.cell 1 rfl
            have e2 := RX.cell 2 rfl
            have e3 := RX.cell 3 rfl
            have e4 := RX.cell 4 rfl
            have e5 := RX.cell 5 rfl
            have e6 := RX.cell 6 rfl
            have e7 := RX.cell 7 rfl
            have e8 := RX.cell 8 rfl
            go_simp
            have RX9 := Rm.over9 RX (.int .i64 (N : Int)) (.int .i64 l) (.int .i64 d) (.int .i64 r) (.int .i64 q) (.int .i64 s) (.slice (some ⟨gK, 0, none⟩) N cK) (.slice (some ⟨gO, 0, none⟩) N cO) (.int .i64 0)
            have qn21 : Q9 w B p a len cap w1.heap.size g c N zs [.int .i64 (N : Int), .int .i64 l, .int .i64 d, .int .i64 r, .int .i64 q, .int .i64 s] _ := ⟨(((((((((hHeld.2.2.2.2.2.2.out.1.setNew (q := X) 0 (by omega) (by omega) (by omega) (.int .i64 (N : Int))).setNew (q := X) 1 (by omega) (by omega) (by omega) (.int .i64 l)).setNew (q := X) 2 (by omega) (by omega) (by omega) (.int .i64 d)).setNew (q := X) 3 (by omega) (by omega) (by omega) (.int .i64 r)).setNew (q := X) 4 (by omega) (by omega) (by omega) (.int .i64 q)).setNew (q := X) 5 (by omega) (by omega) (by omega) (.int .i64 s)).setNew (q := X) 6 (by omega) (by omega) (by omega) (.slice (some ⟨gK, 0, none⟩) N cK)).setNew (q := X) 7 (by omega) (by omega) (by omega) (.slice (some ⟨gO, 0, none⟩) N cO)).setNew (q := X) 8 (by omega) (by omega) (by omega) (.int .i64 0)), (((((((((hHeld.2.2.2.2.2.2.out.2.1.setOther (q := X) (by omega) 0 (.int .i64 (N : Int))).setOther (q := X) (by omega) 1 (.int .i64 l)).setOther (q := X) (by omega) 2 (.int .i64 d)).setOther (q := X) (by omega) 3 (.int .i64 r)).setOther (q := X) (by omega) 4 (.int .i64 q)).setOther (q := X) (by omega) 5 (.int .i64 s)).setOther (q := X) (by omega) 6 (.slice (some ⟨gK, 0, none⟩) N cK)).setOther (q := X) (by omega) 7 (.slice (some ⟨gO, 0, none⟩) N cO)).setOther (q := X) (by omega) 8 (.int .i64 0)), (((((((((hHeld.2.2.2.2.2.2.out.2.2.1.setOther (q := X) (by omega) 0 (.int .i64 (N : Int))).setOther (q := X) (by omega) 1 (.int .i64 l)).setOther (q := X) (by omega) 2 (.int .i64 d)).setOther (q := X) (by omega) 3 (.int .i64 r)).setOther (q := X) (by omega) 4 (.int .i64 q)).setOther (q := X) (by omega) 5 (.int .i64 s)).setOther (q := X) (by omega) 6 (.slice (some ⟨gK, 0, none⟩) N cK)).setOther (q := X) (by omega) 7 (.slice (some ⟨gO, 0, none⟩) N cO)).setOther (q := X) (by omega) 8 (.int .i64 0)), (((((((((hHeld.2.2.2.2.2.2.out.2.2.2.setOther (q := X) (by omega) 0 (.int .i64 (N : Int))).setOther (q := X) (by omega) 1 (.int .i64 l)).setOther (q := X) (by omega) 2 (.int .i64 d)).setOther (q := X) (by omega) 3 (.int .i64 r)).setOther (q := X) (by omega) 4 (.int .i64 q)).setOther (q := X) (by omega) 5 (.int .i64 s)).setOther (q := X) (by omega) 6 (.slice (some ⟨gK, 0, none⟩) N cK)).setOther (q := X) (by omega) 7 (.slice (some ⟨gO, 0, none⟩) N cO)).setOther (q := X) (by omega) 8 (.int .i64 0))⟩
            have kvn21 := Tk.kv hK (w := _) ⟨qn21.2.2.1.cell 0 rfl, qn21.2.2.1.cell 1 rfl, qn21.2.2.1.cell 2 rfl, qn21.2.2.1.cell 3 rfl, qn21.2.2.1.cell 4 rfl, qn21.2.2.1.cell 5 rfl, qn21⟩
            replace pK := (((((((((pK.setOther (q := X) (by omega) 0 (.int .i64 (N : Int))).setOther (q := X) (by omega) 1 (.int .i64 l)).setOther (q := X) (by omega) 2 (.int .i64 d)).setOther (q := X) (by omega) 3 (.int .i64 r)).setOther (q := X) (by omega) 4 (.int .i64 q)).setOther (q := X) (by omega) 5 (.int .i64 s)).setOther (q := X) (by omega) 6 (.slice (some ⟨gK, 0, none⟩) N cK)).setOther (q := X) (by omega) 7 (.slice (some ⟨gO, 0, none⟩) N cO)).setOther (q := X) (by omega) 8 (.int .i64 0))
            replace pO := (((((((((pO.setOther (q := X) (by omega) 0 (.int .i64 (N : Int))).setOther (q := X) (by omega) 1 (.int .i64 l)).setOther (q := X) (by omega) 2 (.int .i64 d)).setOther (q := X) (by omega) 3 (.int .i64 r)).setOther (q := X) (by omega) 4 (.int .i64 q)).setOther (q := X) (by omega) 5 (.int .i64 s)).setOther (q := X) (by omega) 6 (.slice (some ⟨gK, 0, none⟩) N cK)).setOther (q := X) (by omega) 7 (.slice (some ⟨gO, 0, none⟩) N cO)).setOther (q := X) (by omega) 8 (.int .i64 0))
            clear RX qn21 e0 f0 e1 f1 e2 f2 e3 f3 e4 f4 e5 f5 e6 f6 e7 f7 e8 f8
            try dsimp only
            refine hK.out _ _ kvn21 ?_; clear hK K hHeld; intro hHeld; try simp only [Act.put, List.setIfInBounds_toArray, List.set_cons_zero, List.set_cons_succ]
            refine Tk.W 14 (some 7) (.assign (.tmp 43)) 4 none ?_
            refine wpAnyH_done (by kernel_rfl) ?_ _
            refine NoPanic.normal ?_
            have qq := hHeld.2.2.2.2.2.2.out
            clear hHeld
            go_wp2_with fail
            go_meet
            case rel => exact ⟨X, gK, cK, gO, cO, rfl, _, _, qq.1, RX9, qq.2.2.1, qq.2.2.2, pK.mono (by omega), pO.mono (by omega), (wo_of rfl HC.out hzN hz hbad), by omega, by omega, by omega, by omega, by omega, by omega, by omega⟩
        · go_simp
          have bn23 := (Below.refl wA.heap.size wA).alloc (Nat.le_refl _) (.cells #[.int .i64 0, .int .i64 0, .int .i64 0, .int .i64 0, .int .i64 0, .int .i64 0, .slice none 0 0, .slice none 0 0, .int .i64 0] 31)
          have RX := Rm.Room.new wA z9 31
          have lX := RX.lt (by simp)
          have qn23 := Q9.below hHeld.2.2.2.2.2.2.out bn23
          have kvn23 := Tk.kv hK (w := _) ⟨qn23.2.2.1.cell 0 rfl, qn23.2.2.1.cell 1 rfl, qn23.2.2.1.cell 2 rfl, qn23.2.2.1.cell 3 rfl, qn23.2.2.1.cell 4 rfl, qn23.2.2.1.cell 5 rfl, qn23⟩
          have gX := hHeld.2.2.2.2.2.2.out.2.1.lt
          clear bn23 qn23
          obtain ⟨X, hX⟩ : ∃ X, X = wA.heap.size := ⟨_, rfl⟩
          rw [← hX] at RX lX gX ⊢
          generalize wA.alloc (.cells #[.int .i64 0, .int .i64 0, .int .i64 0, .int .i64 0, .int .i64 0, .int .i64 0, .slice none 0 0, .slice none 0 0, .int .i64 0] 31) = wX at kvn23 RX lX ⊢
          have zn23 : w1.heap.size + 2 ≤ X := by omega
          clear hX
          try dsimp only
          refine hK.out _ _ kvn23 ?_; clear hK K hHeld; intro hHeld; try simp only [Act.put, List.setIfInBounds_toArray, List.set_cons_zero, List.set_cons_succ]
          refine Tk.R 7 (some 40) (.call ⟨.value (.func 75), #[.tmp 35, .tmp 37, .tmp 39], #[89, 2, 2]⟩) 35 none (fun K hK => ?_)
          go_simp
          refine (l5DrawLies w B p a len cap N l (by omega) (by omega) (by omega) (by omega) _ hHeld.2.2.2.2.2.2.out.1).mono ?_
          rintro e wL ⟨⟨gL, rfl, bs, hL, hbad⟩, stn24, sn24⟩
          have zn24 := sn24.size
          have qn24 := Q9.step hHeld.2.2.2.2.2.2.out stn24 sn24 (by omega) (by omega) (by omega)
          have kvn24 := Tk.kv hK (w := wL) ⟨qn24.2.2.1.cell 0 rfl, qn24.2.2.1.cell 1 rfl, qn24.2.2.1.cell 2 rfl, qn24.2.2.1.cell 3 rfl, qn24.2.2.1.cell 4 rfl, qn24.2.2.1.cell 5 rfl, qn24⟩
          have loL := hL.2.1
          have hiL := hL.2.2.1
          replace RX := room_step RX sn24 (by omega)
          clear stn24 sn24
          try dsimp only
          refine hK.out _ _ kvn24 ?_; clear hK K hHeld; intro hHeld; try simp only [Act.put, List.setIfInBounds_toArray, List.set_cons_zero, List.set_cons_succ]
          refine Tk.R 8 (some 41) (.call ⟨.value (.func 28), #[.tmp 33, .tmp 34, .tmp 40], #[28, 29, 35]⟩) 43 none (fun K hK => ?_)
          go_simp
          refine (Wl.s_NewWorldO N l d r q s g 0 N c (some ⟨gL, 0, none⟩) N N bs zs _ hzN (fun j hj => by rw [Nat.zero_add]; exact (hHeld.2.2.2.2.2.2.out.2.1.cell j hj).1) hHeld.2.2.2.2.2.2.out.2.1.lt hL.row (by omega) (by omega)).mono ?_
          rintro e wN ⟨⟨-, hTn25⟩, bn25⟩
          obtain ⟨gK, gO, cK, cO, rfl, pK, pO, neKO, -, -⟩ := hTn25 (wo_of rfl HC.out hzN hz hbad)
          have zn25 := bn25.size
          have qn25 := Q9.below hHeld.2.2.2.2.2.2.out bn25
          have kvn25 := Tk.kv hK (w := wN) ⟨qn25.2.2.1.cell 0 rfl, qn25.2.2.1.cell 1 rfl, qn25.2.2.1.cell 2 rfl, qn25.2.2.1.cell 3 rfl, qn25.2.2.1.cell 4 rfl, qn25.2.2.1.cell 5 rfl, qn25⟩
          have loK := pK.2.1
          have hiK := pK.2.2.1
          have loO := pO.data.2.1
          have hiO := pO.lt
          replace RX := RX.below bn25
          clear bn25 hTn25 hL
          try dsimp only
          refine hK.out _ _ kvn25 ?_; clear hK K hHeld; intro hHeld; try simp only [Act.put, List.setIfInBounds_toArray, List.set_cons_zero, List.set_cons_succ]
          refine Tk.W 9 (some 32) (.move (.tmp 41)) 43 none ?_
          refine Tk.W 10 (some 42) (.extract (.tmp 32) 0) 31 none ?_
          refine Tk.W 11 (some 43) (.extract (.tmp 32) 1) 4 none ?_
          refine Tk.R 13 none (.store 31 (.tmp 6) (.tmp 42)) 0 none (fun K hK => ?_)
          have f0 := RX.froz 0 rfl
          have f1 := RX.froz 1 rfl
          have f2 := RX.froz 2 rfl
          have f3 := RX.froz 3 rfl
          have f4 := RX.froz 4 rfl
          have f5 := RX.froz 5 rfl
          have f6 := RX.froz 6 rfl
          have f7 := RX.froz 7 rfl
          have f8 := RX.froz 8 rfl
          have e0 := RX.cell 0 rfl
          have e1 := RX.cell 1 rfl
          have e2 := RX.cell 2 rfl
          have e3 := RX.cell 3 rfl
          have e4 := RX.cell 4 rfl
          have e5 := RX.cell 5 rfl
          have e6 := RX.cell 6 rfl
          have e7 := RX.cell 7 rfl
          have e8 := RX.cell 8 rfl
          go_simp
          have RX9 := Rm.over9 RX (.int .i64 (N : Int)) (.int .i64 l) (.int .i64 d) (.int .i64 r) (.int .i64 q) (.int .i64 s) (.slice (some ⟨gK, 0, none⟩) N cK) (.slice (some ⟨gO, 0, none⟩) N cO) (.int .i64 0)
          have qn29 : Q9 w B p a len cap w1.heap.size g c N zs [.int .i64 (N : Int), .int .i64 l, .int .i64 d, .int .i64 r, .int .i64 q, .int .i64 s] _ := ⟨(((((((((hHeld.2.2.2.2.2.2.out.1.setNew (q := X) 0 (by omega) (by omega) (by omega) (.int .i64 (N : Int))).setNew (q := X) 1 (by omega) (by omega) (by omega) (.int .i64 l)).setNew (q := X) 2 (by omega) (by omega) (by omega) (.int .i64 d)).setNew (q := X) 3 (by omega) (by omega) (by omega) (.int .i64 r)).setNew (q := X) 4 (by omega) (by omega) (by omega) (.int .i64 q)).setNew (q := X) 5 (by omega) (by omega) (by omega) (.int .i64 s)).setNew (q := X) 6 (by omega) (by omega) (by omega) (.slice (some ⟨gK, 0, none⟩) N cK)).setNew (q := X) 7 (by omega) (by omega) (by omega) (.slice (some ⟨gO, 0, none⟩) N cO)).setNew (q := X) 8 (by omega) (by omega) (by omega) (.int .i64 0)), (((((((((hHeld.2.2.2.2.2.2.out.2.1.setOther (q := X) (by omega) 0 (.int .i64 (N : Int))).setOther (q := X) (by omega) 1 (.int .i64 l)).setOther (q := X) (by omega) 2 (.int .i64 d)).setOther (q := X) (by omega) 3 (.int .i64 r)).setOther (q := X) (by omega) 4 (.int .i64 q)).setOther (q := X) (by omega) 5 (.int .i64 s)).setOther (q := X) (by omega) 6 (.slice (some ⟨gK, 0, none⟩) N cK)).setOther (q := X) (by omega) 7 (.slice (some ⟨gO, 0, none⟩) N cO)).setOther (q := X) (by omega) 8 (.int .i64 0)), (((((((((hHeld.2.2.2.2.2.2.out.2.2.1.setOther (q := X) (by omega) 0 (.int .i64 (N : Int))).setOther (q := X) (by omega) 1 (.int .i64 l)).setOther (q := X) (by omega) 2 (.int .i64 d)).setOther (q := X) (by omega) 3 (.int .i64 r)).setOther (q := X) (by omega) 4 (.int .i64 q)).setOther (q := X) (by omega) 5 (.int .i64 s)).setOther (q := X) (by omega) 6 (.slice (some ⟨gK, 0, none⟩) N cK)).setOther (q := X) (by omega) 7 (.slice (some ⟨gO, 0, none⟩) N cO)).setOther (q := X) (by omega) 8 (.int .i64 0)), (((((((((hHeld.2.2.2.2.2.2.out.2.2.2.setOther (q := X) (by omega) 0 (.int .i64 (N : Int))).setOther (q := X) (by omega) 1 (.int .i64 l)).setOther (q := X) (by omega) 2 (.int .i64 d)).setOther (q := X) (by omega) 3 (.int .i64 r)).setOther (q := X) (by omega) 4 (.int .i64 q)).setOther (q := X) (by omega) 5 (.int .i64 s)).setOther (q := X) (by omega) 6 (.slice (some ⟨gK, 0, none⟩) N cK)).setOther (q := X) (by omega) 7 (.slice (some ⟨gO, 0, none⟩) N cO)).setOther (q := X) (by omega) 8 (.int .i64 0))⟩
          have kvn29 := Tk.kv hK (w := _) ⟨qn29.2.2.1.cell 0 rfl, qn29.2.2.1.cell 1 rfl, qn29.2.2.1.cell 2 rfl, qn29.2.2.1.cell 3 rfl, qn29.2.2.1.cell 4 rfl, qn29.2.2.1.cell 5 rfl, qn29⟩
          replace pK := (((((((((pK.setOther (q := X) (by omega) 0 (.int .i64 (N : Int))).setOther (q := X) (by omega) 1 (.int .i64 l)).setOther (q := X) (by omega) 2 (.int .i64 d)).setOther (q := X) (by omega) 3 (.int .i64 r)).setOther (q := X) (by omega) 4 (.int .i64 q)).setOther (q := X) (by omega) 5 (.int .i64 s)).setOther (q := X) (by omega) 6 (.slice (some ⟨gK, 0, none⟩) N cK)).setOther (q := X) (by omega) 7 (.slice (some ⟨gO, 0, none⟩) N cO)).setOther (q := X) (by omega) 8 (.int .i64 0))
          replace pO := (((((((((pO.setOther (q := X) (by omega) 0 (.int .i64 (N : Int))).setOther (q := X) (by omega) 1 (.int .i64 l)).setOther (q := X) (by omega) 2 (.int .i64 d)).setOther (q := X) (by omega) 3 (.int .i64 r)).setOther (q := X) (by omega) 4 (.int .i64 q)).setOther (q := X) (by omega) 5 (.int .i64 s)).setOther (q := X) (by omega) 6 (.slice (some ⟨gK, 0, none⟩) N cK)).setOther (q := X) (by omega) 7 (.slice (some ⟨gO, 0, none⟩) N cO)).setOther (q := X) (by omega) 8 (.int .i64 0))
          clear RX qn29 e0 f0 e1 f1 e2 f2 e3 f3 e4 f4 e5 f5 e6 f6 e7 f7 e8 f8
          try dsimp only
          refine hK.out _ _ kvn29 ?_; clear hK K hHeld; intro hHeld; try simp only [Act.put, List.setIfInBounds_toArray, List.set_cons_zero, List.set_cons_succ]
          refine Tk.W 14 (some 7) (.assign (.tmp 43)) 4 none ?_
          refine wpAnyH_done (by kernel_rfl) ?_ _
          refine NoPanic.normal ?_
          have qq := hHeld.2.2.2.2.2.2.out
          clear hHeld
          go_wp2_with fail
          go_meet
          case rel => exact ⟨X, gK, cK, gO, cO, rfl, _, _, qq.1, RX9, qq.2.2.1, qq.2.2.2, pK.mono (by omega), pO.mono (by omega), (wo_of rfl HC.out hzN hz hbad), by omega, by omega, by omega, by omega, by omega, by omega, by omega⟩
      case rest =>
        obtain ⟨X, gK, cK, gO, cO, rfl, H⟩ := hcut
        obtain ⟨ks, os, stc, RX, RF, RR, pK, pO, hW, n1, n2, n3, n4, n5, n6, n7⟩ := H.out
        clear H q0 zA hz
        go_wp2_with fail
        refine wp_region_noPanic ?_
        refine wp_region_held_drew (S := (fun w' => w'.cell? ⟨w1.heap.size, 0, none⟩ = some (.int .i64 (N : Int)) ∧ w'.cell? ⟨w1.heap.size, 1, none⟩ = some (.int .i64 l) ∧ w'.cell? ⟨w1.heap.size, 2, none⟩ = some (.int .i64 d) ∧ w'.cell? ⟨w1.heap.size, 3, none⟩ = some (.int .i64 r) ∧ w'.cell? ⟨w1.heap.size, 4, none⟩ = some (.int .i64 q) ∧ w'.cell? ⟨w1.heap.size, 5, none⟩ = some (.int .i64 s) ∧ w'.cell? ⟨X, 0, none⟩ = some (.int .i64 (N : Int)) ∧ w'.cell? ⟨X, 1, none⟩ = some (.int .i64 l) ∧ w'.cell? ⟨X, 2, none⟩ = some (.int .i64 d) ∧ w'.cell? ⟨X, 3, none⟩ = some (.int .i64 r) ∧ w'.cell? ⟨X, 4, none⟩ = some (.int .i64 q) ∧ w'.cell? ⟨X, 5, none⟩ = some (.int .i64 s) ∧ w'.cell? ⟨X, 6, none⟩ = some (.slice (some ⟨gK, 0, none⟩) N cK) ∧ w'.cell? ⟨X, 7, none⟩ = some (.slice (some ⟨gO, 0, none⟩) N cO) ∧ w'.cell? ⟨X, 8, none⟩ = some (.int .i64 0) ∧ Hid (St w B p a len cap w' ∧ Rm.Room w' X (c9 N l d r q s (.slice (some ⟨gK, 0, none⟩) N cK) (.slice (some ⟨gO, 0, none⟩) N cO) 0) ∧ Rm.Room w' w1.heap.size [.int .i64 (N : Int), .int .i64 l, .int .i64 d, .int .i64 r, .int .i64 q, .int .i64 s] ∧ Rm.Room w' w.heap.size z9 ∧ Has w' w.heap.size gK 0 N ks ∧ Own w' w.heap.size gO N cO os))) (by kernel_rfl) ⟨RF.drew.cell 0 rfl, RF.drew.cell 1 rfl, RF.drew.cell 2 rfl, RF.drew.cell 3 rfl, RF.drew.cell 4 rfl, RF.drew.cell 5 rfl, RX.drew.cell 0 rfl, RX.drew.cell 1 rfl, RX.drew.cell 2 rfl, RX.drew.cell 3 rfl, RX.drew.cell 4 rfl, RX.drew.cell 5 rfl, RX.drew.cell 6 rfl, RX.drew.cell 7 rfl, RX.drew.cell 8 rfl, ⟨stc.drew', RX.drew, RF.drew, RR.drew, (pK.later (Below.refl _ _).drew pK.2.2.1), (pO.later (Below.refl _ _).drew pO.lt)⟩⟩ (fun hHeld => ?_)
        refine Tk.W 0 (some 44) (.move (.tmp 0)) 89 none ?_
        refine Tk.R 1 (some 45) (.call ⟨.value (.func 77), #[.tmp 44, .const (.int .i64 2)], #[89, 2]⟩) 4 none (fun K hK => ?_)
        go_simp
        refine (l1Once' w B p a len cap 2 (by omega) (by omega) _ hHeld.2.2.2.2.2.2.2.2.2.2.2.2.2.2.2.out.1).mono ?_
        rintro e wB ⟨⟨to2, rfl⟩, sto2, so2⟩
        have ⟨stc, RX, RF, RR, pK, pO⟩ := hHeld.2.2.2.2.2.2.2.2.2.2.2.2.2.2.2.out
        have kvo2 := Tk.kv hK (w := wB) ⟨(room_step RF so2 (by omega)).cell 0 rfl, (room_step RF so2 (by omega)).cell 1 rfl, (room_step RF so2 (by omega)).cell 2 rfl, (room_step RF so2 (by omega)).cell 3 rfl, (room_step RF so2 (by omega)).cell 4 rfl, (room_step RF so2 (by omega)).cell 5 rfl, (room_step RX so2 (by omega)).cell 0 rfl, (room_step RX so2 (by omega)).cell 1 rfl, (room_step RX so2 (by omega)).cell 2 rfl, (room_step RX so2 (by omega)).cell 3 rfl, (room_step RX so2 (by omega)).cell 4 rfl, (room_step RX so2 (by omega)).cell 5 rfl, (room_step RX so2 (by omega)).cell 6 rfl, (room_step RX so2 (by omega)).cell 7 rfl, (room_step RX so2 (by omega)).cell 8 rfl, ⟨sto2, (room_step RX so2 (by omega)), (room_step RF so2 (by omega)), (room_step RR so2 (by omega)), (has_step pK so2 (by omega)), (own_step pO so2 (by omega))⟩⟩
        clear sto2 so2 stc RX RF RR pK pO
        try dsimp only
        refine hK.out _ _ kvo2 ?_; clear hK K hHeld; intro hHeld; try simp only [Act.put, List.setIfInBounds_toArray, List.set_cons_zero, List.set_cons_succ]
        cases to2 with
        | true =>
          refine Tk.W 2 (some 46) (.move (.tmp 45)) 4 none ?_
          refine Tk.W 3 (some 47) (.fieldAddr 31 (.tmp 6) 1) 0 (some (2, true)) ?_
          refine Tk.W 4 (some 48) (.load 29 (.tmp 47)) 29 (some (2, true)) ?_
          refine Tk.W 6 (some 50) (.fieldAddr 28 (.tmp 3) 1) 0 (some (2, true)) ?_
          refine Tk.W 7 (some 51) (.load 2 (.tmp 50)) 2 (some (2, true)) ?_
          refine Tk.R 5 (some 49) (.call ⟨.value (.func 111), #[.tmp 48], #[29]⟩) 2 (some (2, true)) (fun K hK => ?_)
          go_simp
          refine (Wl.l5Bad _ _ _ ks _ hHeld.2.2.2.2.2.2.2.2.2.2.2.2.2.2.2.out.2.2.2.2.1.row (by omega)).mono ?_
          rintro e wB ⟨rfl, rfl⟩
          have kvo8 := hHeld
          try dsimp only
          refine hK.out _ _ kvo8 ?_; clear hK K hHeld; intro hHeld; try simp only [Act.put, List.setIfInBounds_toArray, List.set_cons_zero, List.set_cons_succ]
          refine Tk.W 8 (some 52) (.binOp .lss 2 (.tmp 49) (.tmp 51) 2) 4 (some (2, true)) ?_
          refine Tk.W 9 (some 53) (.pick (.tmp 46) (.tmp 52) (.const (.bool false))) 4 none ?_
          refine wpAnyH_done (by kernel_rfl) ?_ _
          refine NoPanic.normal ?_
          obtain ⟨stc, RX, RF, RR, pK, pO⟩ := hHeld.2.2.2.2.2.2.2.2.2.2.2.2.2.2.2.out
          clear hHeld
          by_cases hbl : (bad ks N : Int) < l
          case neg =>
            have hbl2 : decide ((bad ks N : Int) < l) = false := by simp; omega
            have x0 := RX.cell 0 rfl
            have x1 := RX.cell 1 rfl
            have x2 := RX.cell 2 rfl
            have x3 := RX.cell 3 rfl
            have x4 := RX.cell 4 rfl
            have x5 := RX.cell 5 rfl
            have x6 := RX.cell 6 rfl
            have x7 := RX.cell 7 rfl
            have x8 := RX.cell 8 rfl
            have r0 := RR.cell 0 rfl
            have r1 := RR.cell 1 rfl
            have r2 := RR.cell 2 rfl
            have r3 := RR.cell 3 rfl
            have r4 := RR.cell 4 rfl
            have r5 := RR.cell 5 rfl
            have r6 := RR.cell 6 rfl
            have r7 := RR.cell 7 rfl
            have r8 := RR.cell 8 rfl
            have f0 := RR.froz 0 rfl
            have f1 := RR.froz 1 rfl
            have f2 := RR.froz 2 rfl
            have f3 := RR.froz 3 rfl
            have f4 := RR.froz 4 rfl
            have f5 := RR.froz 5 rfl
            have f6 := RR.froz 6 rfl
            have f7 := RR.froz 7 rfl
            have f8 := RR.froz 8 rfl
            have RQ := Rm.over9 RR (.int .i64 (N : Int)) (.int .i64 l) (.int .i64 d) (.int .i64 r) (.int .i64 q) (.int .i64 s) (.slice (some ⟨gK, 0, none⟩) N cK) (.slice (some ⟨gO, 0, none⟩) N cO) (.int .i64 0)
            have pK9 := (((((((((pK.setOther (q := w.heap.size) (by omega) 0 (.int .i64 (N : Int))).setOther (q := w.heap.size) (by omega) 1 (.int .i64 l)).setOther (q := w.heap.size) (by omega) 2 (.int .i64 d)).setOther (q := w.heap.size) (by omega) 3 (.int .i64 r)).setOther (q := w.heap.size) (by omega) 4 (.int .i64 q)).setOther (q := w.heap.size) (by omega) 5 (.int .i64 s)).setOther (q := w.heap.size) (by omega) 6 (.slice (some ⟨gK, 0, none⟩) N cK)).setOther (q := w.heap.size) (by omega) 7 (.slice (some ⟨gO, 0, none⟩) N cO)).setOther (q := w.heap.size) (by omega) 8 (.int .i64 0))
            have pO9 := (((((((((pO.setOther (q := w.heap.size) (by omega) 0 (.int .i64 (N : Int))).setOther (q := w.heap.size) (by omega) 1 (.int .i64 l)).setOther (q := w.heap.size) (by omega) 2 (.int .i64 d)).setOther (q := w.heap.size) (by omega) 3 (.int .i64 r)).setOther (q := w.heap.size) (by omega) 4 (.int .i64 q)).setOther (q := w.heap.size) (by omega) 5 (.int .i64 s)).setOther (q := w.heap.size) (by omega) 6 (.slice (some ⟨gK, 0, none⟩) N cK)).setOther (q := w.heap.size) (by omega) 7 (.slice (some ⟨gO, 0, none⟩) N cO)).setOther (q := w.heap.size) (by omega) 8 (.int .i64 0))
            have st9 := (((((((((stc.setNew (q := w.heap.size) 0 (by omega) (by omega) (by omega) (.int .i64 (N : Int))).setNew (q := w.heap.size) 1 (by omega) (by omega) (by omega) (.int .i64 l)).setNew (q := w.heap.size) 2 (by omega) (by omega) (by omega) (.int .i64 d)).setNew (q := w.heap.size) 3 (by omega) (by omega) (by omega) (.int .i64 r)).setNew (q := w.heap.size) 4 (by omega) (by omega) (by omega) (.int .i64 q)).setNew (q := w.heap.size) 5 (by omega) (by omega) (by omega) (.int .i64 s)).setNew (q := w.heap.size) 6 (by omega) (by omega) (by omega) (.slice (some ⟨gK, 0, none⟩) N cK)).setNew (q := w.heap.size) 7 (by omega) (by omega) (by omega) (.slice (some ⟨gO, 0, none⟩) N cO)).setNew (q := w.heap.size) 8 (by omega) (by omega) (by omega) (.int .i64 0))
            have nR : w.heap.size ≠ X := by omega
            go_wp2_with fail
            have HD : Hid (Drawn5 w.heap.size _ (N : Int) l d r q s N gK cK gO cO) := ⟨⟨_, _, pK9, pO9⟩, by omega, by omega, n1, hdr.1, hdr.2.1⟩
            have HS := And.intro (St.on hst st9) st9.step
            clear pK9 pO9 st9 RX RR pK pO stc x0 r0 f0 x1 r1 f1 x2 r2 f2 x3 r3 f3 x4 r4 f4 x5 r5 f5 x6 r6 f6 x7 r7 f7 x8 r8 f8
            refine bodyPost_ret (v := wld N l d r q s (.slice (some ⟨gK, 0, none⟩) N cK) (.slice (some ⟨gO, 0, none⟩) N cO) 0) (ret9 Try.results116 rfl RQ) rfl ⟨⟨(N : Int), l, d, r, q, s, N, gK, cK, gO, cO, rfl, HD⟩, HS⟩
          case pos =>
            have hbl2 : decide ((bad ks N : Int) < l) = true := by simp; omega
            have hUL : Wl.UL N l d r q s ks N os N 0 = Wl.up ks N := by unfold Wl.UL; rw [hW]; rfl
            have hul := Wl.up_len ks N
            have hU0 : 0 < (Wl.UL N l d r q s ks N os N 0).length := by rw [hUL]; omega
            obtain ⟨ii, eI, hii, -⟩ := Wl.ul_at hU0
            clear hUL hul
            have pKd := pK.later (Below.refl _ wB).drew pK.2.2.1
            have pOd := pO.later (Below.refl _ wB).drew pO.lt
            go_wp2_with fail
            refine wp_region_noPanic ?_
            refine wp_region_held_drew (S := (fun w' => w'.cell? ⟨X, 0, none⟩ = some (.int .i64 (N : Int)) ∧ w'.cell? ⟨X, 1, none⟩ = some (.int .i64 l) ∧ w'.cell? ⟨X, 2, none⟩ = some (.int .i64 d) ∧ w'.cell? ⟨X, 3, none⟩ = some (.int .i64 r) ∧ w'.cell? ⟨X, 4, none⟩ = some (.int .i64 q) ∧ w'.cell? ⟨X, 5, none⟩ = some (.int .i64 s) ∧ w'.cell? ⟨X, 6, none⟩ = some (.slice (some ⟨gK, 0, none⟩) N cK) ∧ w'.cell? ⟨X, 7, none⟩ = some (.slice (some ⟨gO, 0, none⟩) N cO) ∧ w'.cell? ⟨X, 8, none⟩ = some (.int .i64 0) ∧ Hid (St w B p a len cap w' ∧ Rm.Room w' X (c9 N l d r q s (.slice (some ⟨gK, 0, none⟩) N cK) (.slice (some ⟨gO, 0, none⟩) N cO) 0) ∧ Rm.Room w' w.heap.size z9 ∧ (∃ ks, Has w' w.heap.size gK 0 N ks) ∧ Own w' w.heap.size gO N cO os))) (by kernel_rfl) ⟨RX.drew.cell 0 rfl, RX.drew.cell 1 rfl, RX.drew.cell 2 rfl, RX.drew.cell 3 rfl, RX.drew.cell 4 rfl, RX.drew.cell 5 rfl, RX.drew.cell 6 rfl, RX.drew.cell 7 rfl, RX.drew.cell 8 rfl, ⟨stc.drew', RX.drew, RR.drew, ⟨_, pKd⟩, pOd⟩⟩ (fun hHeld => ?_)
            generalize wB.drew = wD at hHeld pKd pOd ⊢
            refine Tk.W 0 (some 54) (.fieldAddr 31 (.tmp 6) 1) 0 none ?_
            refine Tk.W 1 (some 55) (.load 29 (.tmp 54)) 29 none ?_
            refine Tk.W 2 (some 56) (.load 31 (.tmp 6)) 31 none ?_
            refine Tk.R 3 (some 57) (.call ⟨.value (.func 35), #[.tmp 56], #[31]⟩) 29 none (fun K hK => ?_)
            go_simp
            refine (Wl.s_UpIn N l d r q s 0 _ _ N cK N cO ks os _ pKd.row pOd.row (by omega) (by omega)).mono ?_
            rintro e wU ⟨⟨gU, cU, rfl, oU⟩, bu4⟩
            have ⟨stc, RX, RR, ⟨ks2, pK2⟩, pO⟩ := hHeld.2.2.2.2.2.2.2.2.2.out
            have kvu4 := Tk.kv hK (w := wU) ⟨(RX.below bu4).cell 0 rfl, (RX.below bu4).cell 1 rfl, (RX.below bu4).cell 2 rfl, (RX.below bu4).cell 3 rfl, (RX.below bu4).cell 4 rfl, (RX.below bu4).cell 5 rfl, (RX.below bu4).cell 6 rfl, (RX.below bu4).cell 7 rfl, (RX.below bu4).cell 8 rfl, ⟨(stc.below bu4), (RX.below bu4), (RR.below bu4), ⟨_, (pK2.later bu4 pK2.2.2.1)⟩, (pO.later bu4 pO.lt)⟩⟩
            have hcu := (oU.cell 0 hU0).1
            rw [eI] at hcu
            obtain ⟨LU, hLU⟩ : ∃ LU, (Wl.UL N l d r q s ks N os N 0).length = LU := ⟨_, rfl⟩
            rw [hLU] at hU0 ⊢
            have hU1 : (0 : Int) < LU := by omega
            clear oU bu4 stc RX RR pK2 pO pKd pOd hLU eI
            try dsimp only
            refine hK.out _ _ kvu4 ?_; clear hK K hHeld; intro hHeld; try simp only [Act.put, List.setIfInBounds_toArray, List.set_cons_zero, List.set_cons_succ]
            refine Tk.W 4 (some 58) (.indexAddr 29 (.tmp 57) (.const (.int .i64 0))) 0 none ?_
            refine Tk.R 5 (some 59) (.load 2 (.tmp 58)) 2 none (fun K hK => ?_)
            go_simp
            try dsimp only
            refine hK.out _ _ hHeld ?_; clear hK K hHeld; intro hHeld; try simp only [Act.put, List.setIfInBounds_toArray, List.set_cons_zero, List.set_cons_succ]
            refine Tk.W 6 (some 60) (.indexAddr 29 (.tmp 55) (.tmp 59)) 0 none ?_
            refine Tk.R 7 none (.store 2 (.tmp 60) (.const (.int .i64 1))) 0 none (fun K hK => ?_)
            obtain ⟨ks2, pK2⟩ := hHeld.2.2.2.2.2.2.2.2.2.out.2.2.2.1
            have hck := pK2.2.2.2.1 ii hii
            have hfk := pK2.2.2.2.2 ii hii
            rw [Nat.zero_add] at hck hfk
            have hi3 : (ii : Int) < N := by omega
            go_simp
            have ⟨stc, RX, RR, _, pO⟩ := hHeld.2.2.2.2.2.2.2.2.2.out
            have pK3 := has_put pK2 (j := ii) hii 1
            rw [Nat.zero_add] at pK3
            have kvu8 := Tk.kv hK (w := _) ⟨(RX.setOther (q := gK) (by omega) ii (.int .i64 1)).cell 0 rfl, (RX.setOther (q := gK) (by omega) ii (.int .i64 1)).cell 1 rfl, (RX.setOther (q := gK) (by omega) ii (.int .i64 1)).cell 2 rfl, (RX.setOther (q := gK) (by omega) ii (.int .i64 1)).cell 3 rfl, (RX.setOther (q := gK) (by omega) ii (.int .i64 1)).cell 4 rfl, (RX.setOther (q := gK) (by omega) ii (.int .i64 1)).cell 5 rfl, (RX.setOther (q := gK) (by omega) ii (.int .i64 1)).cell 6 rfl, (RX.setOther (q := gK) (by omega) ii (.int .i64 1)).cell 7 rfl, (RX.setOther (q := gK) (by omega) ii (.int .i64 1)).cell 8 rfl, ⟨(stc.setNew (q := gK) ii (by omega) (by omega) (by omega) (.int .i64 1)), (RX.setOther (q := gK) (by omega) ii (.int .i64 1)), (RR.setOther (q := gK) (by omega) ii (.int .i64 1)), ⟨_, pK3⟩, (pO.setOther (q := gK) (by omega) ii (.int .i64 1))⟩⟩
            clear stc RX RR pK3 pK2 pO hck hfk
            try dsimp only
            refine hK.out _ _ kvu8 ?_; clear hK K hHeld; intro hHeld; try simp only [Act.put, List.setIfInBounds_toArray, List.set_cons_zero, List.set_cons_succ]
            refine wpAnyH_done (by kernel_rfl) ?_ _
            refine NoPanic.normal ?_
            obtain ⟨stc, RX, RR, ⟨ks3, pK⟩, pO⟩ := hHeld.2.2.2.2.2.2.2.2.2.out
            clear hHeld
            have x0 := RX.cell 0 rfl
            have x1 := RX.cell 1 rfl
            have x2 := RX.cell 2 rfl
            have x3 := RX.cell 3 rfl
            have x4 := RX.cell 4 rfl
            have x5 := RX.cell 5 rfl
            have x6 := RX.cell 6 rfl
            have x7 := RX.cell 7 rfl
            have x8 := RX.cell 8 rfl
            have r0 := RR.cell 0 rfl
            have r1 := RR.cell 1 rfl
            have r2 := RR.cell 2 rfl
            have r3 := RR.cell 3 rfl
            have r4 := RR.cell 4 rfl
            have r5 := RR.cell 5 rfl
            have r6 := RR.cell 6 rfl
            have r7 := RR.cell 7 rfl
            have r8 := RR.cell 8 rfl
            have f0 := RR.froz 0 rfl
            have f1 := RR.froz 1 rfl
            have f2 := RR.froz 2 rfl
            have f3 := RR.froz 3 rfl
            have f4 := RR.froz 4 rfl
            have f5 := RR.froz 5 rfl
            have f6 := RR.froz 6 rfl
            have f7 := RR.froz 7 rfl
            have f8 := RR.froz 8 rfl
            have RQ := Rm.over9 RR (.int .i64 (N : Int)) (.int .i64 l) (.int .i64 d) (.int .i64 r) (.int .i64 q) (.int .i64 s) (.slice (some ⟨gK, 0, none⟩) N cK) (.slice (some ⟨gO, 0, none⟩) N cO) (.int .i64 0)
            have pK9 := (((((((((pK.setOther (q := w.heap.size) (by omega) 0 (.int .i64 (N : Int))).setOther (q := w.heap.size) (by omega) 1 (.int .i64 l)).setOther (q := w.heap.size) (by omega) 2 (.int .i64 d)).setOther (q := w.heap.size) (by omega) 3 (.int .i64 r)).setOther (q := w.heap.size) (by omega) 4 (.int .i64 q)).setOther (q := w.heap.size) (by omega) 5 (.int .i64 s)).setOther (q := w.heap.size) (by omega) 6 (.slice (some ⟨gK, 0, none⟩) N cK)).setOther (q := w.heap.size) (by omega) 7 (.slice (some ⟨gO, 0, none⟩) N cO)).setOther (q := w.heap.size) (by omega) 8 (.int .i64 0))
            have pO9 := (((((((((pO.setOther (q := w.heap.size) (by omega) 0 (.int .i64 (N : Int))).setOther (q := w.heap.size) (by omega) 1 (.int .i64 l)).setOther (q := w.heap.size) (by omega) 2 (.int .i64 d)).setOther (q := w.heap.size) (by omega) 3 (.int .i64 r)).setOther (q := w.heap.size) (by omega) 4 (.int .i64 q)).setOther (q := w.heap.size) (by omega) 5 (.int .i64 s)).setOther (q := w.heap.size) (by omega) 6 (.slice (some ⟨gK, 0, none⟩) N cK)).setOther (q := w.heap.size) (by omega) 7 (.slice (some ⟨gO, 0, none⟩) N cO)).setOther (q := w.heap.size) (by omega) 8 (.int .i64 0))
            have st9 := (((((((((stc.setNew (q := w.heap.size) 0 (by omega) (by omega) (by omega) (.int .i64 (N : Int))).setNew (q := w.heap.size) 1 (by omega) (by omega) (by omega) (.int .i64 l)).setNew (q := w.heap.size) 2 (by omega) (by omega) (by omega) (.int .i64 d)).setNew (q := w.heap.size) 3 (by omega) (by omega) (by omega) (.int .i64 r)).setNew (q := w.heap.size) 4 (by omega) (by omega) (by omega) (.int .i64 q)).setNew (q := w.heap.size) 5 (by omega) (by omega) (by omega) (.int .i64 s)).setNew (q := w.heap.size) 6 (by omega) (by omega) (by omega) (.slice (some ⟨gK, 0, none⟩) N cK)).setNew (q := w.heap.size) 7 (by omega) (by omega) (by omega) (.slice (some ⟨gO, 0, none⟩) N cO)).setNew (q := w.heap.size) 8 (by omega) (by omega) (by omega) (.int .i64 0))
            have nR : w.heap.size ≠ X := by omega
            go_wp2_with fail
            have HD : Hid (Drawn5 w.heap.size _ (N : Int) l d r q s N gK cK gO cO) := ⟨⟨_, _, pK9, pO9⟩, by omega, by omega, n1, hdr.1, hdr.2.1⟩
            have HS := And.intro (St.on hst st9) st9.step
            clear pK9 pO9 st9 RX RR pK pO stc x0 r0 f0 x1 r1 f1 x2 r2 f2 x3 r3 f3 x4 r4 f4 x5 r5 f5 x6 r6 f6 x7 r7 f7 x8 r8 f8
            refine bodyPost_ret (v := wld N l d r q s (.slice (some ⟨gK, 0, none⟩) N cK) (.slice (some ⟨gO, 0, none⟩) N cO) 0) (ret9 Try.results116 rfl RQ) rfl ⟨⟨(N : Int), l, d, r, q, s, N, gK, cK, gO, cO, rfl, HD⟩, HS⟩
        | false =>
          refine Tk.W 2 (some 46) (.move (.tmp 45)) 4 none ?_
          refine Tk.N 3 (some 47) (.fieldAddr 31 (.tmp 6) 1) 0 (some (2, true)) ?_
          refine Tk.N 4 (some 48) (.load 29 (.tmp 47)) 29 (some (2, true)) ?_
          refine Tk.N 5 (some 49) (.call ⟨.value (.func 111), #[.tmp 48], #[29]⟩) 2 (some (2, true)) ?_
          refine Tk.N 6 (some 50) (.fieldAddr 28 (.tmp 3) 1) 0 (some (2, true)) ?_
          refine Tk.N 7 (some 51) (.load 2 (.tmp 50)) 2 (some (2, true)) ?_
          refine Tk.N 8 (some 52) (.binOp .lss 2 (.tmp 49) (.tmp 51) 2) 4 (some (2, true)) ?_
          refine Tk.W 9 (some 53) (.pick (.tmp 46) (.tmp 52) (.const (.bool false))) 4 none ?_
          refine wpAnyH_done (by kernel_rfl) ?_ _
          refine NoPanic.normal ?_
          obtain ⟨stc, RX, RF, RR, pK, pO⟩ := hHeld.2.2.2.2.2.2.2.2.2.2.2.2.2.2.2.out
          clear hHeld
          have x0 := RX.cell 0 rfl
          have x1 := RX.cell 1 rfl
          have x2 := RX.cell 2 rfl
          have x3 := RX.cell 3 rfl
          have x4 := RX.cell 4 rfl
          have x5 := RX.cell 5 rfl
          have x6 := RX.cell 6 rfl
          have x7 := RX.cell 7 rfl
          have x8 := RX.cell 8 rfl
          have r0 := RR.cell 0 rfl
          have r1 := RR.cell 1 rfl
          have r2 := RR.cell 2 rfl
          have r3 := RR.cell 3 rfl
          have r4 := RR.cell 4 rfl
          have r5 := RR.cell 5 rfl
          have r6 := RR.cell 6 rfl
          have r7 := RR.cell 7 rfl
          have r8 := RR.cell 8 rfl
          have f0 := RR.froz 0 rfl
          have f1 := RR.froz 1 rfl
          have f2 := RR.froz 2 rfl
          have f3 := RR.froz 3 rfl
          have f4 := RR.froz 4 rfl
          have f5 := RR.froz 5 rfl
          have f6 := RR.froz 6 rfl
          have f7 := RR.froz 7 rfl
          have f8 := RR.froz 8 rfl
          have RQ := Rm.over9 RR (.int .i64 (N : Int)) (.int .i64 l) (.int .i64 d) (.int .i64 r) (.int .i64 q) (.int .i64 s) (.slice (some ⟨gK, 0, none⟩) N cK) (.slice (some ⟨gO, 0, none⟩) N cO) (.int .i64 0)
          have pK9 := (((((((((pK.setOther (q := w.heap.size) (by omega) 0 (.int .i64 (N : Int))).setOther (q := w.heap.size) (by omega) 1 (.int .i64 l)).setOther (q := w.heap.size) (by omega) 2 (.int .i64 d)).setOther (q := w.heap.size) (by omega) 3 (.int .i64 r)).setOther (q := w.heap.size) (by omega) 4 (.int .i64 q)).setOther (q := w.heap.size) (by omega) 5 (.int .i64 s)).setOther (q := w.heap.size) (by omega) 6 (.slice (some ⟨gK, 0, none⟩) N cK)).setOther (q := w.heap.size) (by omega) 7 (.slice (some ⟨gO, 0, none⟩) N cO)).setOther (q := w.heap.size) (by omega) 8 (.int .i64 0))
          have pO9 := (((((((((pO.setOther (q := w.heap.size) (by omega) 0 (.int .i64 (N : Int))).setOther (q := w.heap.size) (by omega) 1 (.int .i64 l)).setOther (q := w.heap.size) (by omega) 2 (.int .i64 d)).setOther (q := w.heap.size) (by omega) 3 (.int .i64 r)).setOther (q := w.heap.size) (by omega) 4 (.int .i64 q)).setOther (q := w.heap.size) (by omega) 5 (.int .i64 s)).setOther (q := w.heap.size) (by omega) 6 (.slice (some ⟨gK, 0, none⟩) N cK)).setOther (q := w.heap.size) (by omega) 7 (.slice (some ⟨gO, 0, none⟩) N cO)).setOther (q := w.heap.size) (by omega) 8 (.int .i64 0))
          have st9 := (((((((((stc.setNew (q := w.heap.size) 0 (by omega) (by omega) (by omega) (.int .i64 (N : Int))).setNew (q := w.heap.size) 1 (by omega) (by omega) (by omega) (.int .i64 l)).setNew (q := w.heap.size) 2 (by omega) (by omega) (by omega) (.int .i64 d)).setNew (q := w.heap.size) 3 (by omega) (by omega) (by omega) (.int .i64 r)).setNew (q := w.heap.size) 4 (by omega) (by omega) (by omega) (.int .i64 q)).setNew (q := w.heap.size) 5 (by omega) (by omega) (by omega) (.int .i64 s)).setNew (q := w.heap.size) 6 (by omega) (by omega) (by omega) (.slice (some ⟨gK, 0, none⟩) N cK)).setNew (q := w.heap.size) 7 (by omega) (by omega) (by omega) (.slice (some ⟨gO, 0, none⟩) N cO)).setNew (q := w.heap.size) 8 (by omega) (by omega) (by omega) (.int .i64 0))
          have nR : w.heap.size ≠ X := by omega
          go_wp2_with fail
          have HD : Hid (Drawn5 w.heap.size _ (N : Int) l d r q s N gK cK gO cO) := ⟨⟨_, _, pK9, pO9⟩, by omega, by omega, n1, hdr.1, hdr.2.1⟩
          have HS := And.intro (St.on hst st9) st9.step
          clear pK9 pO9 st9 RX RR pK pO stc x0 r0 f0 x1 r1 f1 x2 r2 f2 x3 r3 f3 x4 r4 f4 x5 r5 f5 x6 r6 f6 x7 r7 f7 x8 r8 f8
          refine bodyPost_ret (v := wld N l d r q s (.slice (some ⟨gK, 0, none⟩) N cK) (.slice (some ⟨gO, 0, none⟩) N cO) 0) (ret9 Try.results116 rfl RQ) rfl ⟨⟨(N : Int), l, d, r, q, s, N, gK, cK, gO, cO, rfl, HD⟩, HS⟩

end Go.Proofs.Ytloicicgcdfgnaa.Dr
