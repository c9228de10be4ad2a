/-
  The Go function laws.FnMiddles answers true at every code: impl.MiddleOf does not hang on the order and goes along when all are later; sorted by impl.Sorted, all are there. No condition.
-/
import Derived.Test.YtpablkflchcjiaaRows
import Derived.WalkKit
import Derived.ProofKit
import Derived.OpenShut
import Derived.ShutString
import Derived.ChangeOld
import Derived.Below
import Derived.Test.YtpablkflchcjiaaMth
import Derived.Test.YtpablkflchcjiaaRoll
import Derived.Maps.AppendAt
namespace Go.Proofs.Ytpablkflchcjiaa.fnMiddles
open Go.ChangeShapes Go.WideShapes Go.ChangeAt Go.RowKit
open Go.ChangeMaps (open_string shut_string)
set_option linter.unusedVariables false
set_option linter.unusedSimpArgs false

theorem own : ownKnob Try.prog.godebug = none := by kernel_rfl
theorem laidOut : laidOutB Try.prog = true := by kernel_rfl

/-- WHAT THE WALK IS TOLD OF A SLICE OF INTEGERS THAT CAME IN: it is nil; or it leads to a row of 'cap' cells, the numbers 'zs' (the first 'len' are its elements, the rest its spare room), each fitting its kind. -/
def IsRow (k : IntKind) (w : World) (a : Option Addr) (len cap : Nat) (zs : List Int) : Prop :=
  (a = none ∧ len = 0 ∧ cap = 0 ∧ zs = []) ∨
  ∃ x, a = some x ∧ len ≤ cap ∧ cap ≤ maxLen ∧ zs.length = cap ∧ (∀ i, i < zs.length → w.cell? (x.add i) = some (.int k (zs.getD i 0))) ∧ ∀ n ∈ zs, (Lit.int k n).wf = true

theorem code_of {w : World} {a : Option Addr} {len cap : Nat} {zs : List Int} (h : IsRow .u8 w a len cap zs) (hl : len ≤ 4096) : Dr.Code w w.heap.size a len := by
  refine ⟨hl, ?_⟩
  rcases h with ⟨_, h, _, _⟩ | ⟨x, rfl, h1, h2, h3, h4, h5⟩
  · exact .inl h
  · by_cases h0 : len = 0
    · exact .inl h0
    · obtain ⟨b, off, spot⟩ := x
      have hc := h4 0 (by omega)
      have hs : spot = none := by simpa [Addr.add] using World.cell?_spot hc
      subst hs
      have hb := World.block_lt_of_cell? _ _ hc
      refine .inr ⟨b, off, rfl, by simpa [Addr.add] using hb, fun k hk => ⟨zs.getD k 0, ?_, ?_⟩⟩
      · have hk4 := h4 k (by omega)
        by_cases hk0 : k = 0
        · subst hk0; simpa [Addr.add] using hk4
        · simpa [Addr.add, hk0] using hk4
      · have e : zs.getD k 0 = zs[k]'(by omega) := by simp [List.getD, show k < zs.length by omega]
        refine bounds_u8 (h5 _ ?_)
        rw [e]
        exact List.getElem_mem _

theorem small (a : Option Addr) (len cap : Nat) (h : len ≤ 4096) (w : World) : Calls Try.prog 10 #[.slice a len cap] w fun e w' => e = .returned (.bool false) ∧ w' = w := by
  have h' : ¬ (4096 : Int) < len := by omega
  go_enter Try.func10, Try.ntmps10
  go_wp2
  go_ret
  exact ⟨rfl, rfl⟩

theorem great (a : Option Addr) (len cap : Nat) (h : ¬ len ≤ 4096) (w : World) : Calls Try.prog 10 #[.slice a len cap] w fun e w' => e = .returned (.bool true) ∧ w' = w := by
  have h' : (4096 : Int) < len := by omega
  go_enter Try.func10, Try.ntmps10
  go_wp2
  go_ret
  exact ⟨rfl, rfl⟩


/-- Behind an append to one of three rows. -/
theorem app {w0 W w2 : World} {B0 Bt t kt Ba a ka ca Bb b kb cb : Nat} {xs us vs : List Int} {x : Int} {v2 : Value} {o : Obj} (hb : Below B0 w0 W) (hB : B0 ≤ W.heap.size) (ht : B0 ≤ t) (hta : t ≠ a) (htb : t ≠ b)
    (Ha : Ow.Own W Ba a ka ca us) (Hb : Ow.Own W Bb b kb cb vs) (h : w2.ownsRow Bt 2 1 v2 (kt + 1) (Ow.ints xs ++ Ow.ints [x])) (hg : (W.alloc o).grownBy w2 (some t)) (hn : v2 ≠ .slice none 0 0)
    (hat : v2.ownBlock = some t ∨ v2.ownBlock = some (W.alloc o).heap.size) :
    (∃ t' c', v2 = .slice (some ⟨t', 0, none⟩) (kt + 1) c' ∧ Ow.Own w2 Bt t' (kt + 1) c' (xs ++ [x]) ∧ t' ≠ a ∧ t' ≠ b) ∧ Ow.Own w2 Ba a ka ca us ∧ Ow.Own w2 Bb b kb cb vs ∧ Below B0 w0 w2 := by
  obtain ⟨t', c', e, ho⟩ := Ow.own_of (zs := xs ++ [x]) h (by simp [Ow.ints]) hn
  have la := Ha.lt
  have lb := Hb.lt
  have hat' : t' = t ∨ t' = W.heap.size + 1 := by
    rw [e] at hat
    rcases hat with hat | hat
    · exact .inl (Option.some.inj hat)
    · exact .inr (by have := Option.some.inj hat; simpa using this)
  exact ⟨⟨t', c', e, ho, by omega, by omega⟩, World.ownsRow.kept (World.ownsRow.alloc Ha _) hg (.inr (fun e => by have e2 : a = t := Option.some.inj e; omega)), World.ownsRow.kept (World.ownsRow.alloc Hb _) hg (.inr (fun e => by have e2 : b = t := Option.some.inj e; omega)),
    (hb.alloc hB _).grown hg (by simp; omega) (by intro j hj; cases hj; exact ht)⟩

theorem rev_step {zs : List Int} {n k j : Nat} (hz : zs.length = n) (hk : k < n) (hj : j = n - 1 - k) : zs.reverse.take (k + 1) = zs.reverse.take k ++ [Ls.el zs j] := by
  subst hj
  rw [← List.take_append_getElem (by simp; omega), List.getElem_reverse, Ow.el_get (by omega)]
  congr 3
  omega
theorem later_step {zs : List Int} {n k j : Nat} {b : Int} (hz : zs.length = n) (hk : k < n) (hj : j = n - 1 - k) : (zs.reverse.map (· + b)).take (k + 1) = (zs.reverse.map (· + b)).take k ++ [Ls.el zs j + b] := by
  rw [← List.map_take, ← List.map_take, rev_step hz hk hj, List.map_append]
  rfl
theorem mv_bd {zs : List Int} {n F : Nat} {m : Int} (hz : zs.length = n) (h2 : 2 * F < n) (hT : Tr.TT zs n F = true) (hb : ∀ x ∈ zs, -m ≤ x ∧ x ≤ m) : -m ≤ Tr.MV zs n F ∧ Tr.MV zs n F ≤ m := by
  have e : zs ++ [] = zs := List.append_nil zs
  have h := Tr.trim_in (zs := zs) (ys := []) (n1 := n) (n := n) (F := F) hz (by simp) (by rw [e]; exact hz) h2 (by rw [e]; exact hT)
  rw [e] at h
  obtain ⟨⟨k1, h1, e1⟩, ⟨k2, h2', e2⟩⟩ := Tr.mm_in (zs := zs) (n := n) (by omega)
  have b1 := hb _ (List.getElem_mem (l := zs) (n := k1) (by omega))
  have b2 := hb _ (List.getElem_mem (l := zs) (n := k2) (by omega))
  rw [← Ow.el_get, e1] at b1
  rw [← Ow.el_get, e2] at b2
  omega

/-! The walk. -/
set_option maxHeartbeats 20000000 in
set_option maxRecDepth 100000 in
theorem walk (a0 : Option Addr) (len0 cap0 : Nat) (z0 : List Int) (w : World) (w0 : IsRow .u8 w a0 len0 cap0 z0) :
    Calls Try.prog 5 #[.slice a0 len0 cap0] w fun e w' => e = .returned (.bool true) ∧ Below w.heap.size w w' := by
  by_cases hl : len0 ≤ 4096
  · have code := code_of w0 hl
    clear w0
    obtain ⟨i0, hi, hz0, hz1, hz2⟩ := info_parts Ls.info
    go_enter Try.func5, Try.ntmps5
    go_wp2_with fail
    refine (small a0 len0 cap0 hl _).mono ?_
    rintro e w ⟨rfl, rfl⟩
    go_wp2_with fail
    refine (Di.roll _ a0 len0 cap0 9 _ (Nat.le_refl _) code).mono ?_
    rintro e x1 ⟨rfl, st1⟩
    clear code
    go_wp2_with fail
    refine (Di.below _ _ _ a0 len0 cap0 3 (by omega) (by omega) _ st1).mono ?_
    rintro e x2 ⟨⟨y, rfl, y0, y1⟩, st2⟩
    obtain ⟨F, rfl⟩ : ∃ F : Nat, y = F := ⟨y.toNat, by omega⟩
    go_wp2_with fail
    refine (Di.below _ _ _ a0 len0 cap0 5 (by omega) (by omega) _ st2).mono ?_
    rintro e x3 ⟨⟨q, rfl, q0, q1⟩, st3⟩
    obtain ⟨Q, rfl⟩ : ∃ Q : Nat, q = Q := ⟨q.toNat, by omega⟩
    have s3 := st3.step.size
    clear st1 st2
    go_wp2_with fail
    refine (Rw.row' _ _ a0 len0 cap0 (2 * F + 1 + Q) _ 100 (by omega) (by omega) (by omega) (by omega) _ _ st3 s3).mono ?_
    rintro e x4 ⟨⟨g, c, rfl, zs, hz, hzb⟩, st4, -⟩
    have hp3 := Rw.di_lt st3
    have HZB : Hid (∀ x ∈ zs, -100 ≤ x ∧ x ≤ 100) := hzb
    obtain ⟨n, hn⟩ : ∃ n, Hid (2 * F + 1 + Q = n) := ⟨_, rfl⟩
    have hn9 : n ≤ 9 := by have := hn.out; omega
    have hnp : 2 * F < n := by have := hn.out; omega
    rw [hn.out] at hz ⊢
    clear st3 hzb
    go_wp2_with fail
    refine (Di.around x4 _ _ a0 len0 cap0 1000 (by omega) (by omega) _ ⟨st4.cur, Dr.Step.refl _ _⟩).mono ?_
    rintro e x5 ⟨⟨b, rfl, b0, b1⟩, t5⟩
    have hz5 := Rw.own_step hz t5.step (by have := hz.data.2.1; omega)
    have bB : Below w.heap.size w x5 := (st4.step.trans t5.step).fresh (Nat.le_refl _)
    have hg5 := hz5.lt
    have hzl : zs.length = n := hz5.data.1
    have s5 := bB.size
    clear hz st4 t5
    go_wp2_with fail
    go_loopw [7, 8, 9] (fun v7 v8 q wr => ∃ (k g7 c7 g8 c8 : Nat) (z : Int), k ≤ n ∧ Hid (z = (n : Int) - 1 - (k : Int)) ∧ q = .int .i64 z ∧ v7 = .slice (some ⟨g7, 0, none⟩) k c7 ∧ v8 = .slice (some ⟨g8, 0, none⟩) k c8 ∧
        Ow.Own wr x5.heap.size g7 k c7 (zs.reverse.take k) ∧ Ow.Own wr x5.heap.size g8 k c8 ((zs.reverse.map (· + b)).take k) ∧ Ow.Own wr x3.heap.size g n c zs ∧ Hid (g7 ≠ g8) ∧ Below x5.heap.size x5 wr) (fun _ _ q _ => ((intOf q) + 1).toNat)
    case atStart =>
      have B1 := (Below.refl x5.heap.size x5).alloc (Nat.le_refl _) (.cells #[] 2)
      have B2 := B1.alloc B1.size (.cells #[] 2)
      refine ⟨0, _, _, _, _, _, Nat.zero_le _, (by show _ = _; first | rfl | omega), rfl, rfl, rfl, ?_, ?_, hz5.later B2 hg5, (by show _ ≠ _; omega), B2⟩
      · exact World.ownsRow.alloc (World.ownsRow_made x5 #[] 0 (Nat.le_refl _) (by unfold maxLen; omega) rfl) _
      · have := World.ownsRow_made (base := x5.heap.size) (e := 2) (size := 1) (x5.alloc (.cells #[] 2)) #[] 0 (by simp) (by unfold maxLen; omega) rfl
        simp at this
        exact this
    case round =>
      obtain ⟨k, g7, c7, g8, c8, z, hk, hzz, rfl, rfl, rfl, o7, o8, oz, hne, hb⟩ := hrel
      have d7 := o7.data.2.1
      have d8 := o8.data.2.1
      have sb := hb.size
      by_cases hlt : k < n
      · obtain ⟨j, rfl⟩ : ∃ j : Nat, z = j := ⟨n - 1 - k, by have := hzz.out; omega⟩
        have hjn : (j : Int) < n := by have := hzz.out; omega
        have hj : j = n - 1 - k := by have := hzz.out; omega
        have HJ : Hid (j = n - 1 - k) := hj
        have hcj := (oz.cell j (by omega)).1
        have hbj := HZB.out _ (List.getElem_mem (l := zs) (n := j) (by omega))
        rw [← Ow.el_get] at hbj
        obtain ⟨X, HX⟩ : ∃ X, Hid (Ls.el zs j = X) := ⟨_, rfl⟩
        rw [HX.out] at hcj hbj
        obtain ⟨X0, X1⟩ := hbj
        clear hj
        have HO7 : Hid (Ow.Own wr x5.heap.size g7 k c7 (zs.reverse.take k)) := o7
        have HO8 : Hid (Ow.Own wr x5.heap.size g8 k c8 ((zs.reverse.map (· + b)).take k)) := o8
        have HOZ : Hid (Ow.Own wr x3.heap.size g n c zs) := oz
        clear o7 o8 oz
        go_wp2_with (first
          | (at_builtin; refine wpList_append_own_at _ rfl (.tmp 46) (.tmp 51) 27 rfl x5.heap.size 2 i0 (.int .i64 0) 1 8 Try.underlying27 hi hz0 hz1 hz2 rfl (by decide) _ _ _ rfl (World.ownsRow.alloc (w := wr) HO7.out _) ⟨wr.heap.size, 0, none⟩ 1 1 (Ow.ints [X]) rfl rfl (Ow.one_new wr X _ _ rfl) (Ow.one _) (by unfold maxLen; omega) (by omega) (by simp; omega) ?_; intro v6 x6 hx6 hg6 hn6 ha6; obtain ⟨⟨g6, c6, rfl, o6, ne1, ne2⟩, p8, pz, pb⟩ := app (W := wr) (t := g7) (w0 := x5) (B0 := x5.heap.size) hb sb d7 hne.out (by omega) HO8.out HOZ.out hx6 hg6 (Ow.no_nil hn6 rfl) ha6; have hcj6 := (pz.cell j (by omega)).1; rw [HX.out] at hcj6; have sb6 := pb.size; have HO6 : Hid (Ow.Own x6 x5.heap.size g6 (k + 1) c6 (zs.reverse.take k ++ [X])) := o6; have HP8 : Hid (Ow.Own x6 x5.heap.size g8 k c8 ((zs.reverse.map (· + b)).take k)) := p8; have HPZ : Hid (Ow.Own x6 x3.heap.size g n c zs) := pz; clear hx6 hg6 hn6 ha6 o6 p8 pz HO7 HO8 HOZ hcj)
          | (at_builtin; refine wpList_append_own_at _ rfl (.tmp 53) (.tmp 60) 27 rfl x5.heap.size 2 i0 (.int .i64 0) 1 8 Try.underlying27 hi hz0 hz1 hz2 rfl (by decide) _ _ _ rfl (World.ownsRow.alloc (w := x6) HP8.out _) ⟨x6.heap.size, 0, none⟩ 1 1 (Ow.ints [X + b]) rfl rfl (Ow.one_new x6 (X + b) _ _ rfl) (Ow.one _) (by unfold maxLen; omega) (by omega) (by simp; omega) ?_; intro v9 x9 hx9 hg9 hn9 ha9; obtain ⟨⟨g9, c9, rfl, o9, ne3, ne4⟩, p6, pz, pb9⟩ := app (W := x6) (t := g8) (w0 := x5) (B0 := x5.heap.size) pb sb6 d8 (by omega) (by omega) HO6.out HPZ.out hx9 hg9 (Ow.no_nil hn9 rfl) ha9; clear hx9 hg9 hn9 ha9))
        go_roundw
        case rel => exact ⟨k + 1, g6, c6, g9, c9, (j : Int) - 1, by omega, (by show _ = _; have := HJ.out; omega), rfl, rfl, rfl, by rw [rev_step hzl hlt HJ.out, HX.out]; exact p6, by rw [later_step hzl hlt HJ.out, HX.out]; exact o9, pz, (fun e => ne3 e.symm), pb9⟩
        case measure => simp [intOf]
      · have e : k = n := by omega
        subst e
        obtain rfl : z = -1 := by have := hzz.out; omega
        rw [List.take_of_length_le (by simp; omega)] at o7 o8
        have hT := Tr.tt_yes (zs := zs) (n := k) (F := F) (by omega) hnp (Tr.tm_of hzl (fun x hx => by have := HZB.out x hx; exact ⟨by omega, by omega⟩))
        have hT7 := Tr.tt_yes (zs := zs.reverse) (n := k) (F := F) (by omega) hnp (Tr.tm_of (by simpa using hzl) (fun x hx => by have := HZB.out x (by simpa using hx); exact ⟨by omega, by omega⟩))
        have hT8 := Tr.tt_yes (zs := zs.reverse.map (· + b)) (n := k) (F := F) (by omega) hnp (Tr.tm_of (by simpa using hzl) (fun x hx => by
          obtain ⟨y, hy, rfl⟩ := List.mem_map.1 hx
          have := HZB.out y (by simpa using hy)
          exact ⟨by omega, by omega⟩))
        have e7 := Tr.mv_back hT hT7
        have e8 := Tr.mv_later hzl hnp hT hT8
        have hM := mv_bd hzl hnp hT HZB.out
        have keyZ := fun x hb hc => Tr.i_MiddleOf g 0 k c F zs x hzl hb hc (by omega)
        have key7 := fun x hb hc => Tr.i_MiddleOf g7 0 k c7 F zs.reverse x (by simpa using hzl) hb hc (by omega)
        have key8 := fun x hb hc => Tr.i_MiddleOf g8 0 k c8 F (zs.reverse.map (· + b)) x (by simpa using hzl) hb hc (by omega)
        rw [hT] at keyZ
        rw [hT7, e7] at key7
        rw [hT8, e8] at key8
        generalize Tr.MV zs k F = M at keyZ key7 key8 hM
        obtain ⟨M0, M1⟩ := hM
        clear hT hT7 hT8 e7 e8
        go_wp2_with fail
        refine (keyZ _ oz.lt (fun i hi => by rw [Nat.zero_add]; exact (oz.cell i hi).1)).mono ?_
        rintro e x10 ⟨rfl, b10⟩
        have s10 := b10.size
        have o7 := o7.later b10 o7.lt
        have o8 := o8.later b10 o8.lt
        have oz := oz.later b10 oz.lt
        go_wp2_with fail
        refine (key7 _ o7.lt (fun i hi => by rw [Nat.zero_add]; exact (o7.cell i hi).1)).mono ?_
        rintro e x11 ⟨rfl, b11⟩
        have s11 := b11.size
        have o8 := o8.later b11 o8.lt
        have oz := oz.later b11 oz.lt
        go_wp2_with fail
        refine (key8 _ o8.lt (fun i hi => by rw [Nat.zero_add]; exact (o8.cell i hi).1)).mono ?_
        rintro e x12 ⟨rfl, b12⟩
        have s12 := b12.size
        have oz := oz.later b12 oz.lt
        clear key7 key8 keyZ o7 o8
        go_wp2_with fail
        refine (Ow.i_Sorted g 0 k c zs _ hzl (fun i hi => by rw [Nat.zero_add]; exact (oz.cell i hi).1) (by omega) (.inl oz.lt)).mono ?_
        rintro e x13 ⟨⟨g13, c13, rfl, os⟩, b13⟩
        have oz := oz.later b13 oz.lt
        have bE : Below w.heap.size w x13 := (((((bB.trans (hb.mono s5)).trans (b10.mono (by omega))).trans (b11.mono (by omega))).trans (b12.mono (by omega)))).trans (b13.mono (by omega))
        have SB := Tr.sum_bd hzl (by omega) HZB.out
        have SS := Tr.sum_bd (zs := Ow.srt zs) (n := k) (m := 100) (by rw [Ow.srt_len]; exact hzl) (by omega) (fun x hx => HZB.out x ((Ow.srt_perm zs).mem_iff.1 hx))
        have HE : Hid (Tr.sumK (Ow.srt zs) k = Tr.sumK zs k) := Tr.sum_srt hzl
        have HS : Hid (∀ i, i + 1 < k → Ls.el (Ow.srt zs) i ≤ Ls.el (Ow.srt zs) (i + 1)) := fun i hi => by
          have hl : (Ow.srt zs).length = k := by rw [Ow.srt_len]; exact hzl
          rw [Ow.el_get (by omega), Ow.el_get (by omega)]
          exact List.pairwise_iff_getElem.1 (Ow.srt_sorted zs) i (i + 1) (by omega) (by omega) (by omega)
        have HSB : Hid (∀ m, m ≤ k → -(100 * (m : Int)) ≤ Tr.sumK zs m ∧ Tr.sumK zs m ≤ 100 * (m : Int)) := SB
        have HSS : Hid (∀ m, m ≤ k → -(100 * (m : Int)) ≤ Tr.sumK (Ow.srt zs) m ∧ Tr.sumK (Ow.srt zs) m ≤ 100 * (m : Int)) := SS
        have HOS : Hid (Ow.Own x13 x12.heap.size g13 k c13 (Ow.srt zs)) := os
        have HOZ : Hid (Ow.Own x13 x3.heap.size g k c zs) := oz
        generalize Ow.srt zs = S at HS HSS HOS HE
        clear SB SS os oz b10 b11 b12 b13 hb
        go_wp2_with fail
        go_loopw [17] (fun i wq => ∃ m : Nat, m + 1 ≤ k ∧ i = .int .i64 ((m : Int) + 1) ∧ Hid (Ow.Own wq x12.heap.size g13 k c13 S) ∧ Hid (Ow.Own wq x3.heap.size g k c zs) ∧ Below w.heap.size w wq) (fun i _ => k - (intOf i).toNat)
        case atStart => exact ⟨0, by omega, rfl, HOS, HOZ, bE⟩
        case round =>
          obtain ⟨m, hm, rfl, hos, hoz, hbq⟩ := hrel
          by_cases hlt2 : m + 1 < k
          · have hi2 : (m : Int) + 1 < k := by omega
            have ca := (hos.out.cell m (by omega)).1
            have cb := (hos.out.cell (m + 1) (by omega)).1
            have hd := HS.out m hlt2
            have hd' : ¬ Ls.el S (m + 1) < Ls.el S m := by omega
            clear hd
            go_wp2
            go_quiet (fail)
            go_wp2
            go_roundw
            case rel => exact ⟨m + 1, by omega, by go_num, hos, hoz, below_drewN hbq _⟩
            case measure => simp [intOf]; omega
          · have hi2 : ¬ (m : Int) + 1 < k := by omega
            go_wp2_with fail
            go_loop [18, 19] (fun q i => ∃ t : Nat, t ≤ k ∧ i = .int .i64 t ∧ q = .int .i64 (Tr.sumK zs t)) (fun _ i => k - (intOf i).toNat)
            case atStart => exact ⟨0, Nat.zero_le _, rfl, rfl⟩
            case round =>
              obtain ⟨t, ht, rfl, rfl⟩ := hrel
              by_cases hlt3 : t < k
              · have hi3 : (t : Int) < k := by omega
                have ct := (hoz.out.cell t hlt3).1
                have bt := HSB.out t ht
                have bu := HSB.out (t + 1) hlt3
                have HU : Hid (Tr.sumK zs t + Ls.el zs t = Tr.sumK zs (t + 1)) := rfl
                rw [← HU.out] at bu
                obtain ⟨bu0, bu1⟩ := bu
                have bu2 : -1000 ≤ Tr.sumK zs t + Ls.el zs t := by omega
                have bu3 : Tr.sumK zs t + Ls.el zs t ≤ 1000 := by omega
                clear bt bu0 bu1
                go_wp2
                go_round
                case rel => exact ⟨t + 1, by omega, by go_num, by rw [← HU.out]⟩
                case measure => simp [intOf]; omega
              · have hi3 : ¬ (t : Int) < k := by omega
                have e3 : t = k := by omega
                subst e3
                obtain ⟨A, hA⟩ : ∃ A, Hid (Tr.sumK zs t = A) := ⟨_, rfl⟩
                have bA := HSB.out t (Nat.le_refl _)
                rw [hA.out] at bA HE ⊢
                have bA0 : -1000 ≤ A := by omega
                have bA1 : A ≤ 1000 := by omega
                clear bA
                go_wp2_with fail
                go_loop [18, 20] (fun q i => ∃ r : Nat, r ≤ t ∧ i = .int .i64 r ∧ q = .int .i64 (A - Tr.sumK S r)) (fun _ i => t - (intOf i).toNat)
                case atStart => exact ⟨0, Nat.zero_le _, rfl, by simp [Tr.sumK]⟩
                case round =>
                  obtain ⟨r, hr, rfl, rfl⟩ := hrel
                  by_cases hlt4 : r < t
                  · have hi4 : (r : Int) < t := by omega
                    have ct := (hos.out.cell r hlt4).1
                    have bt := HSS.out r hr
                    have bu := HSS.out (r + 1) hlt4
                    have HU : Hid (Tr.sumK S r + Ls.el S r = Tr.sumK S (r + 1)) := rfl
                    rw [← HU.out] at bu
                    have bu2 : -10000 ≤ A - Tr.sumK S r - Ls.el S r := by omega
                    have bu3 : A - Tr.sumK S r - Ls.el S r ≤ 10000 := by omega
                    clear bt bu
                    go_wp2
                    go_round
                    case rel => exact ⟨r + 1, by omega, by go_num, by rw [← HU.out]; go_num⟩
                    case measure => simp [intOf]; omega
                  · have hi4 : ¬ (r : Int) < t := by omega
                    have e4 : r = t := by omega
                    subst e4
                    rw [HE.out] at *
                    have e5 : A - A = 0 := by omega
                    go_wp2
                    go_ret
                    exact ⟨rfl, hbq⟩
  · go_enter Try.func5, Try.ntmps5
    go_wp2_with (go_at_call 10; refine (great a0 len0 cap0 hl _).mono ?_; rintro e w' ⟨rfl, rfl⟩)
    go_ret
    exact ⟨rfl, Below.refl _ _⟩

/-! The row. -/
set_option maxRecDepth 100000 in
theorem lifted (os : Os) (started : os.Started) (H : Type) (enc : TypeId × Value → H) :
    ReturnsInHanded {} Try.checked os 5 .any (Rows.fnMiddlesSpec.pre6 enc Try.prog Try.f5 Rows.fnMiddlesRow.domain false) (Rows.fnMiddlesSpec.post enc Try.prog Try.f5 false true false false) := by
  refine returnsInHanded_of_change (C := Try.checked) own started (by kernel_rfl) Try.func5
    (ChangeSpec.witness6 (enc := enc) (C := Try.checked) false ⟨#[], #[.slice none 0 0], []⟩ 8 (by kernel_rfl) (by kernel_rfl) (by kernel_rfl) (by kernel_rfl)) ?_
  intro W base args ds gs before hval0 hW hcnd _
  have hval : ∀ (j : Nat) t v, Try.f5.params[j]? = some t → args[j]? = some v → Value.okWide Try.prog W .any base t v := hval0
  have hW' := hW
  obtain ⟨p, q, hA0, hV, rfl, hfz, hnd⟩ := hW
  have hA : DataW.TrodAll enc Try.prog W 0 (fun _ => true) true Try.f5.params.toList args.toList ds p := hA0
  rw [Try.params5] at hA hval
  obtain ⟨v0, vs0, d0, ds0, p0, q0, hargs, rfl, rfl, h0, r0⟩ := trodAll_cons hA
  obtain ⟨rfl, rfl, rfl⟩ := trodAll_nil r0
  obtain rfl : args = #[v0] := by cases args; simp_all
  obtain ⟨rfl, rfl⟩ := trodVars_none hV
  obtain ⟨a0, len0, cap0, rfl⟩ := okWide_slice Try.underlying22 (hval 0 22 v0 rfl rfl)
  have k0 := h0
  have lt0 : ∀ x ∈ p0, x.block < W.heap.size := by obtain ⟨m, hm⟩ := k0; exact DataW.trod_lt m _ _ _ hm
  obtain ⟨z0, w0⟩ : ∃ zs, IsRow .u8 W a0 len0 cap0 zs := by
    obtain ⟨fuel, hf⟩ := h0
    rcases open_ints Try.underlying22 Try.underlying5 (by kernel_rfl) hf with ⟨hcs, _⟩ | ⟨x, l, c, zs, hcs, _, hl, hm, hz, _, hcell, hwz⟩
    · simp [Value.cells] at hcs
      obtain ⟨rfl, rfl, rfl⟩ := hcs
      exact ⟨[], .inl ⟨rfl, rfl, rfl, rfl⟩⟩
    · simp [Value.cells] at hcs
      obtain ⟨rfl, rfl, rfl⟩ := hcs
      exact ⟨zs, .inr ⟨_, rfl, hl, hm, by simpa using hz, hcell, hwz⟩⟩
  clear hA0 hval0
  refine (walk a0 len0 cap0 z0 W w0).mono fun e W' ⟨he, bel⟩ => ?_
  subst he
  exact ⟨_, rfl, _, _, _, [], _, [], hW', trodAll_mk1 (shut_bool Try.underlying4 _), (trodAll_cons_mk (Below.trod laidOut (by kernel_rfl) (of_decide_eq_true (by kernel_rfl)) k0 bel lt0) trodAll_mk0), rfl, bel.frame _, fun h => by cases h⟩

theorem over : Rows.fnMiddlesRow.holds Try.pinned (OpenSpec.ofChange Rows.fnMiddlesSpec) :=
  OpenClaim.holds_of_wide 5 Try.f5 rfl rfl rfl rfl rfl rfl rfl ⟨rfl, rfl, rfl, rfl, rfl⟩ rfl rfl rfl rfl rfl (by kernel_rfl) Try.func5 (by kernel_rfl)
    (of_decide_eq_true (by kernel_rfl)) (by unfold Func.isWrapper; first | (rw [if_pos (by decide +kernel)]; kernel_rfl) | (rw [if_neg (by decide +kernel)]; exact ⟨rfl, rfl⟩))
    (fun os started H enc _ => lifted os started H enc)

end Go.Proofs.Ytpablkflchcjiaa.fnMiddles

namespace Go.Proofs.Ytpablkflchcjiaa
/-- The given statement. -/
theorem fnMiddles_holds : Rows.FnMiddlesSaid := fnMiddles.over
#print axioms fnMiddles_holds
end Go.Proofs.Ytpablkflchcjiaa
