/-
  Seals that are drawn (spec.l11Draw); keys and lists of seals (spec.DrawMergedSeals, spec.DrawProofOk): each in new memory.
-/
import Derived.Test.YtdjeffjjijkhbaaMg2
import Derived.Test.YtdjeffjjijkhbaaKd
namespace Go.Proofs.Ytdjeffjjijkhbaa.Dm
open Go.ChangeShapes Go.WideShapes Go.ChangeAt Go.RowKit
open Ls (el Row)
open Ow (Own ints)
open Dr (Step St)
open Rm (Room)
open Sb (S3 es fl sl Row3)
open Og (OwnS)
open Mg (c3)
set_option linter.unusedVariables false
set_option linter.unusedSimpArgs false

/-- A cursor, keys, and the seals that are gathered. -/
structure Dw (w w' : World) (B p : Nat) (a : Option Addr) (len cap BK gk nk ck : Nat) (zs : List Int) (g m c : Nat) (ss : List S3) : Prop where
  st : St w B p a len cap w'
  KS : Own w' BK gk nk ck zs
  OS : OwnS w' w.heap.size g m c ss
  hp : p < w.heap.size
  hk : gk ≠ p ∧ gk < w.heap.size
section
variable {w w1 w2 : World} {B p : Nat} {a : Option Addr} {len cap BK gk nk ck : Nat} {zs : List Int} {g m c : Nat} {ss : List S3}
theorem Dw.step (h : Dw w w1 B p a len cap BK gk nk ck zs g m c ss) (s : St w B p a len cap w2) (x : Step p w1 w2) : Dw w w2 B p a len cap BK gk nk ck zs g m c ss :=
  ⟨s, Dg.own_step h.KS x h.hk.1, Og.own_stp h.OS x h.hp, h.hp, h.hk⟩
theorem Dw.below (h : Dw w w1 B p a len cap BK gk nk ck zs g m c ss) (b : Below w1.heap.size w1 w2) : Dw w w2 B p a len cap BK gk nk ck zs g m c ss :=
  ⟨h.st.below b, h.KS.later b h.KS.lt, Og.own_below h.OS b, h.hp, h.hk⟩
theorem Dw.set (h : Dw w w1 B p a len cap BK gk nk ck zs g m c ss) {q : Nat} (hq : w.heap.size ≤ q) (hB : B ≤ q) (hg : q ≠ g) (i : Nat) (v : Value) : Dw w (w1.setCell ⟨q, i, none⟩ v) B p a len cap BK gk nk ck zs g m c ss :=
  ⟨h.st.setNew i hq (by have := h.hp; omega) hB v, h.KS.later ((Below.refl w.heap.size w1).setCell (p := ⟨q, i, none⟩) hq v) h.hk.2, Og.own_keep h.OS fun k e => by cases e; exact Below.heap_setCell _ _ _ _ (by simp; omega), h.hp, h.hk⟩
theorem Dw.app (h : Dw w w1 B p a len cap BK gk nk ck zs g m c ss) {x : S3} {v2 : Value} {o : Obj} (hx : w2.ownsRow w.heap.size 32 3 v2 (m + 1) (fl ss ++ fl [x])) (hg : (w1.alloc o).grownBy w2 (some g)) (hn : v2 ≠ .slice none 0 0)
    (hat : v2.ownBlock = some g ∨ v2.ownBlock = some (w1.alloc o).heap.size) : ∃ g2 c2, v2 = .slice (some ⟨g2, 0, none⟩) (m + 1) c2 ∧ Dw w w2 B p a len cap BK gk nk ck zs g2 (m + 1) c2 (ss ++ [x]) := by
  obtain ⟨g2, c2, e, h2, hh⟩ := Og.moreS hx hn hat
  have hgB : w.heap.size ≤ g := (Og.own_lt h.OS rfl).1
  have hp := h.hp
  have hle := h.st.le
  have hs := h.st.step.size
  have b : Below w.heap.size w1 w2 := ((Below.refl w.heap.size w1).alloc hs o).grown hg (by simp; omega) (fun j e => by cases e; exact hgB)
  exact ⟨g2, c2, e, Dg.dr_grown (h.st.obj o) hg (by omega) (by omega) hgB, h.KS.later b h.hk.2, h2, hp, h.hk⟩
theorem Dw.base (h : Dw w w1 B p a len cap BK gk nk ck zs g m c ss) (o : Obj) : w.heap.size ≤ (w1.alloc o).heap.size := by
  have hs := h.st.step.size
  simp; omega
end

set_option maxHeartbeats 8000000 in
set_option maxRecDepth 100000 in
theorem l11Draw (w0 : World) (B p : Nat) (a : Option Addr) (len cap : Nat) (BK gk nk ck : Nat) (zs : List Int) (w : World) (st : St w0 B p a len cap w) (hB : B ≤ w.heap.size) (hk : Own w BK gk nk ck zs) (hne : gk ≠ p) (hn : nk ≤ 17) :
    Calls Try.prog 32 #[.pointer (some ⟨p, 0, none⟩), .slice (some ⟨gk, 0, none⟩) nk ck] w fun e w' => (∃ g n c, e = .returned (.slice (some ⟨g, 0, none⟩) n c) ∧ n ≤ 8 ∧ ∃ ss, OwnS w' w.heap.size g n c ss) ∧ St w0 B p a len cap w' ∧ Step p w w' := by
  obtain ⟨i0, hi, hz0, hz1, hz2⟩ := info_parts Og.infoS
  have hpl := st.lt
  have hstp := st.step
  have DW0 : Dw w (w.alloc (.cells #[] 32)) B p a len cap BK gk nk ck zs w.heap.size 0 0 [] := ⟨st.here.obj _, hk.later ((Below.refl _ _).alloc (Nat.le_refl _) _) hk.lt, Og.ownS_made w, hpl, hne, hk.lt⟩
  clear hk
  go_enter Try.func32, Try.ntmps32
  go_wp2_with fail
  refine (Dr.l1Below' w B p a len cap 9 (by omega) (by omega) _ DW0.st).mono ?_
  rintro e w1 ⟨⟨N0, rfl, n0, n1⟩, s1, t1⟩
  replace DW0 := DW0.step s1 t1
  clear s1 t1
  obtain ⟨N, rfl⟩ : ∃ N : Nat, N0 = N := ⟨N0.toNat, by omega⟩
  have hN : N ≤ 8 := by omega
  clear n0 n1
  go_wp2_with fail
  go_loopw [5, 6, 7, 8] (fun v q _ _ wr => ∃ (k g m c : Nat) (ss : List S3), k ≤ N ∧ m ≤ k ∧ v = .slice (some ⟨g, 0, none⟩) m c ∧ q = .int .i64 ((N : Int) - (k : Int)) ∧ Dw w wr B p a len cap BK gk nk ck zs g m c ss) (fun _ q _ _ _ => (intOf q).toNat)
  case atStart => exact ⟨0, _, 0, _, [], Nat.zero_le _, Nat.le_refl _, rfl, by simp, DW0⟩
  case round =>
    clear DW0
    obtain ⟨k, g, m, c, ss, hkN, hmk, rfl, rfl, DW⟩ := hrel
    by_cases hlt : k < N
    · have hi' : (0 : Int) < (N : Int) - (k : Int) := by omega
      go_wp2_with fail
      refine (Dr.l1Below' w B p a len cap 3 (by omega) (by omega) _ DW.st).mono ?_
      rintro e w2 ⟨⟨x, rfl, x0, x1⟩, s2, t2⟩
      replace DW := DW.step s2 t2
      clear s2 t2
      have hw : IntKind.i64.wrap (1 + x) = 1 + x := by rw [IntKind.wrap_i64]; omega
      go_wp2_with fail
      refine (Sp.l1Max nk 1 _).mono ?_
      rintro e w3 ⟨rfl, rfl⟩
      have hm0 : 0 < max (nk : Int) 1 := by omega
      have hm1 : max (nk : Int) 1 ≤ 17 := by omega
      generalize max (nk : Int) 1 = M at hm0 hm1 ⊢
      go_wp2_with fail
      refine (Dr.l1Below' w B p a len cap M (by omega) (by omega) _ DW.st).mono ?_
      rintro e w4 ⟨⟨y, rfl, y0, y1⟩, s4, t4⟩
      replace DW := DW.step s4 t4
      clear s4 t4
      go_wp2_with fail
      refine (Sl.s_SealOf _ _ _ zs (1 + x) y _ DW.KS.row (by omega)).mono ?_
      rintro e w5 ⟨rfl, b5⟩
      replace DW := DW.below b5
      clear b5
      have tb := Sl.tt_bd zs nk (1 + x) y
      obtain ⟨r, hr⟩ : ∃ q, Sl.S1 zs nk (1 + x) y = q := ⟨_, rfl⟩
      obtain ⟨kk, hkk⟩ : ∃ q, Sl.S2 zs nk (1 + x) y = q := ⟨_, rfl⟩
      obtain ⟨t, ht⟩ : ∃ q, Sl.TT zs nk (1 + x) y = q := ⟨_, rfl⟩
      obtain ⟨so, hs⟩ : ∃ q, Sl.SO zs nk (1 + x) y = q := ⟨_, rfl⟩
      have HA : Hid (Sl.SA zs nk (1 + x) y = .returned (.tuple #[Sl.sl r kk t, .bool so])) := by show Sl.SA zs nk (1 + x) y = _; rw [Sl.SA, hr, hkk, ht, hs]
      rw [ht] at tb
      clear hr hkk ht hs hw x0 x1 y0 y1 hm0 hm1
      rw [HA.out]
      clear HA
      have lo : w.heap.size ≤ g := (Og.own_lt DW.OS rfl).1
      have hgl : g < w5.heap.size := (Og.own_lt DW.OS rfl).2
      have hsz := DW.st.step.size
      obtain ⟨q, hq⟩ : ∃ q, q = w5.heap.size := ⟨_, rfl⟩
      have RX := Room.at w5 [.int .i64 r, .int .i64 kk, .int .i64 t] 32 q hq
      have DX := DW.below ((Below.refl _ w5).alloc (Nat.le_refl _) (.cells #[.int .i64 r, .int .i64 kk, .int .i64 t] 32))
      have HQ : Hid (q = w5.heap.size) := hq
      have hqg : q ≠ g ∧ w.heap.size ≤ q ∧ B ≤ q ∧ q ≠ p := by have := DW.hp; omega
      clear hq lo hgl hsz DW
      go_wp2_with fail
      rw [← HQ.out]
      generalize w5.alloc (.cells #[.int .i64 r, .int .i64 kk, .int .i64 t] 32) = w6 at RX DX ⊢
      clear HQ
      refine (Dr.l1Once' w B p a len cap 8 (by omega) (by omega) _ DX.st).mono ?_
      rintro e w7 ⟨⟨tt, rfl⟩, s7, t7⟩
      replace DX := DX.step s7 t7
      replace RX := Dg.room_step RX t7 hqg.2.2.2
      clear s7 t7
      have e2 := RX.cell 2 rfl
      have f2 := RX.froz 2 rfl
      have hw2 : IntKind.i64.wrap (t + 1) = t + 1 := by rw [IntKind.wrap_i64]; omega
      cases tt with
      | true =>
        have DY := DX.set hqg.2.1 hqg.2.2.1 hqg.1 2 (.int .i64 (t + 1))
        have RY : Room (w7.setCell ⟨q, 2, none⟩ (.int .i64 (t + 1))) q [.int .i64 r, .int .i64 kk, .int .i64 (t + 1)] := RX.set 2 _
        clear DX RX
        cases so with
        | true =>
          have HP : Hid (Dw w (w7.setCell ⟨q, 2, none⟩ (.int .i64 (t + 1))) B p a len cap BK gk nk ck zs g m c ss) := DY
          clear DY
          have c0 := RY.cell 0 rfl
          have c1 := RY.cell 1 rfl
          have c2 := RY.cell 2 rfl
          clear RY
          go_wp2_with (at_builtin; refine wpList_append_own_at _ rfl (.tmp 36) (.tmp 38) 25 rfl w.heap.size 32 i0 (.agg #[.int .i64 0, .int .i64 0, .int .i64 0]) 3 24 Try.underlying25 hi hz0 hz1 hz2 rfl (by decide) _ _ _ rfl (World.ownsRow.alloc (w := w7.setCell ⟨q, 2, none⟩ (.int .i64 (t + 1))) HP.out.OS _) ⟨w7.heap.size, 0, none⟩ 1 1 (fl [(r, kk, t + 1)]) rfl rfl (Og.one_newS (w7.setCell ⟨q, 2, none⟩ (.int .i64 (t + 1))) (r, kk, t + 1) w7.heap.size (by simp)) (Og.fl_one _) (by unfold maxLen; omega) (by omega) (HP.out.base _) ?_; intro v2 wa hx2 hg2 hn2 ha2; obtain ⟨g2, c3_, rfl, DZ⟩ := HP.out.app hx2 hg2 (Dg.no_nil hn2 rfl) ha2; clear hx2 hg2 hn2 ha2 HP)
          clear c0 c1 c2 e2 f2 hw2
          go_wp2
          go_roundw
          case rel => exact ⟨k + 1, g2, m + 1, c3_, _, by omega, by omega, rfl, by go_num, DZ⟩
          case measure => simp [intOf]; omega
        | false =>
          go_wp2
          go_roundw
          case rel => exact ⟨k + 1, g, m, c, ss, by omega, by omega, rfl, by go_num, DY⟩
          case measure => simp [intOf]; omega
      | false =>
        clear f2 hw2 e2
        cases so with
        | true =>
          have HP : Hid (Dw w w7 B p a len cap BK gk nk ck zs g m c ss) := DX
          clear DX
          have c0 := RX.cell 0 rfl
          have c1 := RX.cell 1 rfl
          have c2 := RX.cell 2 rfl
          clear RX
          go_wp2_with (at_builtin; refine wpList_append_own_at _ rfl (.tmp 36) (.tmp 38) 25 rfl w.heap.size 32 i0 (.agg #[.int .i64 0, .int .i64 0, .int .i64 0]) 3 24 Try.underlying25 hi hz0 hz1 hz2 rfl (by decide) _ _ _ rfl (World.ownsRow.alloc (w := w7) HP.out.OS _) ⟨w7.heap.size, 0, none⟩ 1 1 (fl [(r, kk, t)]) rfl rfl (Og.one_newS w7 (r, kk, t) _ rfl) (Og.fl_one _) (by unfold maxLen; omega) (by omega) (HP.out.base _) ?_; intro v2 wa hx2 hg2 hn2 ha2; obtain ⟨g2, c3_, rfl, DZ⟩ := HP.out.app hx2 hg2 (Dg.no_nil hn2 rfl) ha2; clear hx2 hg2 hn2 ha2 HP)
          clear c0 c1 c2
          go_wp2
          go_roundw
          case rel => exact ⟨k + 1, g2, m + 1, c3_, _, by omega, by omega, rfl, by go_num, DZ⟩
          case measure => simp [intOf]; omega
        | false =>
          go_wp2
          go_roundw
          case rel => exact ⟨k + 1, g, m, c, ss, by omega, by omega, rfl, by go_num, DX⟩
          case measure => simp [intOf]; omega
    · have hi' : ¬ (0 : Int) < (N : Int) - (k : Int) := by omega
      go_wp2
      go_ret
      exact ⟨⟨g, m, c, rfl, by omega, ss, DW.OS⟩, ⟨DW.st.cur, hstp.trans DW.st.step⟩, DW.st.step⟩

theorem ret3 {fn : Func} {ts : Array Value} {W : World} {a b c : Value} (hf : fn.results = #[.tmp 2, .tmp 3, .tmp 4]) (h2 : ts[2]? = some a) (h3 : ts[3]? = some b) (h4 : ts[4]? = some c) : (results fn ts).run Try.prog W = .ok (.tuple #[a, b, c]) W := by
  simp [results, hf, h2, h3, h4, go_sem]
theorem ret4 {fn : Func} {ts : Array Value} {W : World} {a b c d : Value} (hf : fn.results = #[.tmp 2, .tmp 3, .tmp 4, .tmp 5]) (h2 : ts[2]? = some a) (h3 : ts[3]? = some b) (h4 : ts[4]? = some c) (h5 : ts[5]? = some d) : (results fn ts).run Try.prog W = .ok (.tuple #[a, b, c, d]) W := by
  simp [results, hf, h2, h3, h4, h5, go_sem]

set_option maxHeartbeats 4000000 in
theorem drawMerged (B : Nat) (a : Option Addr) (len cap : Nat) (w : World) (hB : B ≤ w.heap.size) (hc : Dr.Code w B a len) :
    Calls Try.prog 10 #[.slice a len cap] w fun e w' => (∃ gk nk ck ga na ca gb nb cb, e = .returned (.tuple #[.slice (some ⟨gk, 0, none⟩) nk ck, .slice (some ⟨ga, 0, none⟩) na ca, .slice (some ⟨gb, 0, none⟩) nb cb]) ∧ (nk ≤ 17 ∧ na ≤ 8 ∧ nb ≤ 8) ∧ ∃ zs A C, Own w' w.heap.size gk nk ck zs ∧ OwnS w' w.heap.size ga na ca A ∧ OwnS w' w.heap.size gb nb cb C) ∧ Below w.heap.size w w' := by
  go_enter Try.func10, Try.ntmps10
  go_wp2_with fail
  refine (Dr.l1New B a len cap w hB hc).mono ?_
  rintro e w1 ⟨rfl, st1⟩
  have hp1 := st1.lt
  go_wp2_with fail
  refine (Kd.l9DrawAny _ B w.heap.size a len cap w1 st1).mono ?_
  rintro e w2 ⟨⟨gk, ck, nk, rfl, ⟨_, n1⟩, zs, hk⟩, st2, s2⟩
  have k1 := hk.data.2.1
  have z2 := s2.size
  clear s2 st1
  go_wp2_with fail
  refine (l11Draw _ B w.heap.size a len cap _ gk nk ck zs w2 st2 (by omega) hk (by omega) n1).mono ?_
  rintro e w3 ⟨⟨ga, na, ca, rfl, n2, A, oa⟩, st3, s3⟩
  replace hk := Dg.own_step hk s3 (by omega)
  have z3 := s3.size
  clear s3 st2
  go_wp2_with fail
  refine (l11Draw _ B w.heap.size a len cap _ gk nk ck zs w3 st3 (by omega) hk (by omega) n1).mono ?_
  rintro e w4 ⟨⟨gb, nb, cb, rfl, n3, C, ob⟩, st4, s4⟩
  replace hk := Dg.own_step hk s4 (by omega)
  replace oa := Og.own_stp oa s4 (by omega)
  have b4 := st4.step.fresh (Nat.le_refl _)
  have HK : Hid (Own w4 w.heap.size gk nk ck zs) := hk.mono (by omega)
  have HA : Hid (OwnS w4 w.heap.size ga na ca A) := Og.own_low oa (by omega)
  have HC : Hid (OwnS w4 w.heap.size gb nb cb C) := Og.own_low ob (by omega)
  clear hk oa ob s4 st3 st4
  go_wp2_with fail
  refine bodyPost_ret (v := .tuple #[.slice (some ⟨gk, 0, none⟩) nk ck, .slice (some ⟨ga, 0, none⟩) na ca, .slice (some ⟨gb, 0, none⟩) nb cb]) (ret3 Try.results10 rfl rfl rfl) rfl ?_
  exact ⟨⟨gk, nk, ck, ga, na, ca, gb, nb, cb, rfl, ⟨n1, n2, n3⟩, zs, A, C, HK.out, HA.out, HC.out⟩, b4⟩

set_option maxHeartbeats 4000000 in
theorem drawProof (B : Nat) (a : Option Addr) (len cap : Nat) (w : World) (hB : B ≤ w.heap.size) (hc : Dr.Code w B a len) :
    Calls Try.prog 15 #[.slice a len cap] w fun e w' => (∃ (K L : Value) (f r : Int), e = .returned (.tuple #[K, .int .i64 f, L, .int .i64 r]) ∧ (-1 ≤ f ∧ f ≤ 3) ∧ 0 ≤ r ∧ r ≤ 4) ∧ Below w.heap.size w w' := by
  go_enter Try.func15, Try.ntmps15
  go_wp2_with fail
  refine (Dr.l1New B a len cap w hB hc).mono ?_
  rintro e w1 ⟨rfl, st1⟩
  have hp1 := st1.lt
  go_wp2_with fail
  refine (Kd.l9DrawAny _ B w.heap.size a len cap w1 st1).mono ?_
  rintro e w2 ⟨⟨gk, ck, nk, rfl, ⟨_, n1⟩, zs, hk⟩, st2, s2⟩
  have k1 := hk.data.2.1
  have z2 := s2.size
  clear s2 st1
  go_wp2_with fail
  refine (l11Draw _ B w.heap.size a len cap _ gk nk ck zs w2 st2 (by omega) hk (by omega) n1).mono ?_
  rintro e w3 ⟨⟨ga, na, ca, rfl, n2, A, oa⟩, st3, s3⟩
  clear hk oa s3 st2
  go_wp2_with fail
  refine (Dg.l1From' _ B w.heap.size a len cap (-1) 3 (by omega) (by omega) (by omega) _ st3).mono ?_
  rintro e w4 ⟨⟨f, rfl, f0, f1⟩, st4, s4⟩
  clear s4 st3
  have HF : Hid (-1 ≤ f ∧ f ≤ 3) := ⟨f0, f1⟩
  clear f0 f1
  go_wp2_with fail
  refine (Dg.l1From' _ B w.heap.size a len cap 0 4 (by omega) (by omega) (by omega) _ st4).mono ?_
  rintro e w5 ⟨⟨r, rfl, r0, r1⟩, st5, s5⟩
  have b5 := st5.step.fresh (Nat.le_refl _)
  have HR : Hid (0 ≤ r ∧ r ≤ 4) := ⟨r0, r1⟩
  clear r0 r1 s5 st4 st5
  go_wp2_with fail
  refine bodyPost_ret (v := .tuple #[.slice (some ⟨gk, 0, none⟩) nk ck, .int .i64 f, .slice (some ⟨ga, 0, none⟩) na ca, .int .i64 r]) (ret4 Try.results15 rfl rfl rfl rfl) rfl ?_
  exact ⟨⟨_, _, f, r, rfl, HF.out, HR.out⟩, b5⟩

end Go.Proofs.Ytdjeffjjijkhbaa.Dm
