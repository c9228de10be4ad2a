/-
  The Go function laws.FnTrim answers true at every code: with at most f of them wrong, the first and the last one that impl.Trimmed leaves lie within what the others span, and so does impl.MiddleOf. No condition.
-/
import Derived.Test.YtpablkflchcjiaaRows
import Derived.WalkKit
import Derived.ProofKit
import Derived.OpenShut
import Derived.ShutString
import Derived.ChangeOld
import Derived.Below
import Derived.Test.YtpablkflchcjiaaMth
import Derived.Test.YtpablkflchcjiaaRoll
namespace Go.Proofs.Ytpablkflchcjiaa.fnTrim
open Go.ChangeShapes Go.WideShapes Go.ChangeAt Go.RowKit
open Go.ChangeMaps (open_string shut_string)
set_option linter.unusedVariables false
set_option linter.unusedSimpArgs false

theorem own : ownKnob Try.prog.godebug = none := by kernel_rfl
theorem laidOut : laidOutB Try.prog = true := by kernel_rfl

/-- WHAT THE WALK IS TOLD OF A SLICE OF INTEGERS THAT CAME IN: it is nil; or it leads to a row of 'cap' cells, the numbers 'zs' (the first 'len' are its elements, the rest its spare room), each fitting its kind. -/
def IsRow (k : IntKind) (w : World) (a : Option Addr) (len cap : Nat) (zs : List Int) : Prop :=
  (a = none ∧ len = 0 ∧ cap = 0 ∧ zs = []) ∨
  ∃ x, a = some x ∧ len ≤ cap ∧ cap ≤ maxLen ∧ zs.length = cap ∧ (∀ i, i < zs.length → w.cell? (x.add i) = some (.int k (zs.getD i 0))) ∧ ∀ n ∈ zs, (Lit.int k n).wf = true

theorem code_of {w : World} {a : Option Addr} {len cap : Nat} {zs : List Int} (h : IsRow .u8 w a len cap zs) (hl : len ≤ 4096) : Dr.Code w w.heap.size a len := by
  refine ⟨hl, ?_⟩
  rcases h with ⟨_, h, _, _⟩ | ⟨x, rfl, h1, h2, h3, h4, h5⟩
  · exact .inl h
  · by_cases h0 : len = 0
    · exact .inl h0
    · obtain ⟨b, off, spot⟩ := x
      have hc := h4 0 (by omega)
      have hs : spot = none := by simpa [Addr.add] using World.cell?_spot hc
      subst hs
      have hb := World.block_lt_of_cell? _ _ hc
      refine .inr ⟨b, off, rfl, by simpa [Addr.add] using hb, fun k hk => ⟨zs.getD k 0, ?_, ?_⟩⟩
      · have hk4 := h4 k (by omega)
        by_cases hk0 : k = 0
        · subst hk0; simpa [Addr.add] using hk4
        · simpa [Addr.add, hk0] using hk4
      · have e : zs.getD k 0 = zs[k]'(by omega) := by simp [List.getD, show k < zs.length by omega]
        refine bounds_u8 (h5 _ ?_)
        rw [e]
        exact List.getElem_mem _

theorem small (a : Option Addr) (len cap : Nat) (h : len ≤ 4096) (w : World) : Calls Try.prog 10 #[.slice a len cap] w fun e w' => e = .returned (.bool false) ∧ w' = w := by
  have h' : ¬ (4096 : Int) < len := by omega
  go_enter Try.func10, Try.ntmps10
  go_wp2
  go_ret
  exact ⟨rfl, rfl⟩

theorem great (a : Option Addr) (len cap : Nat) (h : ¬ len ≤ 4096) (w : World) : Calls Try.prog 10 #[.slice a len cap] w fun e w' => e = .returned (.bool true) ∧ w' = w := by
  have h' : (4096 : Int) < len := by omega
  go_enter Try.func10, Try.ntmps10
  go_wp2
  go_ret
  exact ⟨rfl, rfl⟩


/-! The walk. -/
set_option maxHeartbeats 20000000 in
set_option maxRecDepth 100000 in
theorem walk (a0 : Option Addr) (len0 cap0 : Nat) (z0 : List Int) (w : World) (w0 : IsRow .u8 w a0 len0 cap0 z0) :
    Calls Try.prog 4 #[.slice a0 len0 cap0] w fun e w' => e = .returned (.bool true) ∧ Below w.heap.size w w' := by
  by_cases hl : len0 ≤ 4096
  · have code := code_of w0 hl
    clear w0
    obtain ⟨i0, hi, hz0, hz1, hz2⟩ := info_parts Ls.info
    go_enter Try.func4, Try.ntmps4
    go_wp2_with fail
    refine (small a0 len0 cap0 hl _).mono ?_
    rintro e w ⟨rfl, rfl⟩
    go_wp2_with fail
    refine (Di.roll _ a0 len0 cap0 8 _ (Nat.le_refl _) code).mono ?_
    rintro e x1 ⟨rfl, st1⟩
    clear code
    go_wp2_with fail
    refine (Di.below _ _ _ a0 len0 cap0 4 (by omega) (by omega) _ st1).mono ?_
    rintro e x2 ⟨⟨y, rfl, y0, y1⟩, st2⟩
    obtain ⟨F, rfl⟩ : ∃ F : Nat, y = F := ⟨y.toNat, by omega⟩
    go_wp2_with fail
    refine (Di.below _ _ _ a0 len0 cap0 6 (by omega) (by omega) _ st2).mono ?_
    rintro e x3 ⟨⟨q, rfl, q0, q1⟩, st3⟩
    obtain ⟨Q, rfl⟩ : ∃ Q : Nat, q = Q := ⟨q.toNat, by omega⟩
    have s3 := st3.step.size
    clear st1 st2
    go_wp2_with fail
    refine (Rw.row' _ _ a0 len0 cap0 (F + 1 + Q) _ 100 (by omega) (by omega) (by omega) (by omega) _ _ st3 s3).mono ?_
    rintro e x4 ⟨⟨g, c, rfl, zs, hz, hzb⟩, st4, -⟩
    have s4 := st4.step.size
    have HZ : Hid (Ow.Own x4 x3.heap.size g (F + 1 + Q) c zs) := hz
    have HZB : Hid (∀ x ∈ zs, -100 ≤ x ∧ x ≤ 100) := hzb
    have hdz := hz.data
    have hgl := hz.lt
    have hp3 := Rw.di_lt st3
    have HN : Hid (∀ (ob : Obj), ∀ j u, (Ow.ints zs)[j]? = some u → (x4.alloc ob).cell? ((⟨g, 0, none⟩ : Addr).add j) = some u) := fun ob => Ow.news (n := F + 1 + Q) hdz.1 (fun j hj => by rw [World.cell?_alloc_lt _ _ _ (by exact hgl), Nat.zero_add]; exact (hz.cell j hj).1)
    obtain ⟨n1, hn1⟩ : ∃ n1, Hid (F + 1 + Q = n1) := ⟨_, rfl⟩
    have hn1' : n1 ≤ 9 := by have := hn1.out; omega
    have hn1p : 0 < n1 := by have := hn1.out; omega
    rw [hn1.out] at HZ hdz ⊢
    clear st3 hz hzb
    go_wp2_with (at_builtin; refine wpList_append_own _ rfl (.tmp 29) (.tmp 30) 27 rfl x4.heap.size 2 i0 (.int .i64 0) 1 8 Try.underlying27 hi hz0 hz1 hz2 rfl (by decide) _ _ _ rfl (World.ownsRow_made x4 #[] 0 (Nat.le_refl _) (by unfold maxLen; omega) rfl) ⟨g, 0, none⟩ n1 c (Ow.ints zs) rfl (by rw [Ow.ints_len]; omega) (HN.out _) (Ow.one _) (by unfold maxLen; omega) (by omega) (by simp) ?_; intro v5 x5 hx5 hg5 hn5)
    rw [Nat.zero_add, List.nil_append] at hx5
    obtain ⟨⟨g5, c5, rfl, ho5⟩, b5, gr5⟩ := Rw.copy_of hx5 hg5 (Ow.no_nil hn5 rfl)
    have st5 : Di.St w w.heap.size w.heap.size a0 len0 cap0 x5 := Rw.di_grown st4 gr5 (by omega) s4 s4
    have z5 : Ow.Own x5 x3.heap.size g n1 c zs := HZ.out.later b5 hgl
    have s5 := b5.size
    clear hx5 hg5 hn5 HN HZ st4 gr5
    refine (Di.below x5 _ _ a0 len0 cap0 _ (by omega) (by omega) _ ⟨st5.cur, Dr.Step.refl _ _⟩).mono ?_
    rintro e x6 ⟨⟨k0, rfl, k00, k01⟩, t6⟩
    obtain ⟨K, rfl⟩ : ∃ K : Nat, k0 = K := ⟨k0.toNat, by omega⟩
    have ho6 := Rw.own_step ho5 t6.step (by have := ho5.data.2.1; omega)
    have z6 := Rw.own_step z5 t6.step (by have := z5.data.2.1; omega)
    have st6 : Di.St w w.heap.size w.heap.size a0 len0 cap0 x6 := ⟨t6.cur, st5.step.trans t6.step⟩
    clear ho5 z5 st5 t6
    have hzg := z6.lt
    have hgz : x3.heap.size ≤ g := z6.data.2.1
    go_wp2_with fail
    go_loopw [6, 7] (fun v q wr => ∃ (m n g' c' : Nat) (ys : List Int), m + ys.length = K ∧ Hid (n = n1 + ys.length) ∧ q = .int .i64 (m : Int) ∧ v = .slice (some ⟨g', 0, none⟩) n c' ∧ Ow.Own wr x4.heap.size g' n c' (zs ++ ys) ∧ Hid (∀ y ∈ ys, -500000 ≤ y ∧ y ≤ 500000) ∧ Ow.Own wr x3.heap.size g n1 c zs ∧ x4.heap.size ≤ wr.heap.size ∧ Di.St w w.heap.size w.heap.size a0 len0 cap0 wr) (fun _ q _ => (intOf q).toNat)
    case atStart => exact ⟨K, n1, g5, c5, [], by simp, (by show n1 = n1 + 0; omega), rfl, rfl, by rw [List.append_nil]; exact ho6, (fun y hy => by cases hy), z6, by have := ho6.lt; have := ho6.data.2.1; omega, st6⟩
    case round =>
      obtain ⟨m, n, g', c', ys, hmk, hnn, rfl, rfl, ho, HB, hz, hsz, sr⟩ := hrel
      have hgB := ho.data.2.1
      by_cases hlt : 0 < m
      · have hi' : (0 : Int) < (m : Int) := by omega
        have hn12 : n ≤ 12 := by have := hnn.out; omega
        go_wp2_with fail
        refine (Di.around wr _ _ a0 len0 cap0 5000 (by omega) (by omega) wr ⟨sr.cur, Dr.Step.refl _ _⟩).mono ?_
        rintro e x7 ⟨⟨x, rfl, xa, xb⟩, t7⟩
        have ho7 := Rw.own_step ho t7.step (by omega)
        have z7 := Rw.own_step hz t7.step (by omega)
        have sr7 : Di.St w w.heap.size w.heap.size a0 len0 cap0 x7 := ⟨t7.cur, sr.step.trans t7.step⟩
        have sz7 : x4.heap.size ≤ x7.heap.size := Nat.le_trans hsz t7.step.size
        have HO7 : Hid (Ow.Own x7 x4.heap.size g' n c' (zs ++ ys)) := ho7
        clear ho ho7 t7 sr hz
        go_wp2_with (at_builtin; refine wpList_append_own _ rfl (.tmp 40) (.tmp 44) 27 rfl x4.heap.size 2 i0 (.int .i64 0) 1 8 Try.underlying27 hi hz0 hz1 hz2 rfl (by decide) _ _ _ rfl (World.ownsRow.alloc (w := x7) HO7.out _) ⟨x7.heap.size, 0, none⟩ 1 1 (Ow.ints [x * 100]) rfl rfl (Ow.one_new x7 (x * 100) _ _ rfl) (Ow.one _) (by unfold maxLen; omega) (by omega) (by simp; omega) ?_; intro v8 x8 hx8 hg8 hn8)
        obtain ⟨g8, c8, rfl, ho8⟩ := Rw.more (w1 := x7) (g := g') (c := c') hx8 (Ow.no_nil hn8 rfl)
        have sr8 : Di.St w w.heap.size w.heap.size a0 len0 cap0 x8 := Rw.di_grown (g := g') (Rw.di_alloc sr7 _ (by omega)) hg8 (by omega) (by omega) (by omega)
        have z8 : Ow.Own x8 x3.heap.size g n1 c zs := World.ownsRow.kept (World.ownsRow.alloc z7 _) hg8 (.inr (fun e => by have e2 : g = g' := Option.some.inj e; omega))
        have sz8 : x4.heap.size ≤ x8.heap.size := by have := hg8.size; simp at this; omega
        rw [List.append_assoc] at ho8
        clear hx8 hg8 hn8 sr7 HO7 z7
        go_wp2_with fail
        go_roundw
        case rel => exact ⟨m - 1, n + 1, g8, c8, ys ++ [x * 100], by simp; omega, (by show _ = _; have := hnn.out; simp; omega), by go_num, rfl, ho8, (fun y hy => by rcases List.mem_append.1 hy with hy | hy; exact HB.out y hy; rw [List.mem_singleton] at hy; subst hy; omega), z8, sz8, sr8⟩
        case measure => simp [intOf]; omega
      · have hi' : ¬ (0 : Int) < (m : Int) := by omega
        have hyl : ys.length ≤ F := by omega
        have hn12 : n ≤ 12 := by have := hnn.out; omega
        have hd := ho.data
        have hal : (zs ++ ys).length = n := hd.1
        have htm : Hu.tmK (zs ++ ys) n = true := Tr.tm_of hal (fun x hx => by
          rcases List.mem_append.1 hx with hx | hx
          · have := HZB.out x hx; exact ⟨by omega, by omega⟩
          · have := HB.out x hx; exact ⟨by omega, by omega⟩)
        by_cases hle : (n : Int) ≤ 2 * (F : Int)
        · have hT := Tr.tt_no (zs := zs ++ ys) (n := n) (f := F) (by omega)
          have key := Tr.i_Trimmed g' 0 n c' F (zs ++ ys) wr hal ho.lt (fun k hk => by rw [Nat.zero_add]; exact (ho.cell k hk).1) (by omega)
          unfold Tr.TR at key
          rw [hT] at key
          have bB := sr.step.fresh (Nat.le_refl _)
          go_wp2_with fail
          refine key.mono ?_
          rintro e x9 ⟨⟨g9, o9, c9, rfl, h9⟩, b9⟩
          clear h9
          go_wp2
          go_ret
          exact ⟨rfl, bB.trans (b9.mono bB.size)⟩
        · have h2 : 2 * F < n := by omega
          have hT := Tr.tt_yes (zs := zs ++ ys) (n := n) (F := F) (by omega) h2 htm
          have hdz := hz.data
          obtain ⟨t1, t2, t3, t4⟩ := Tr.trim_in hdz.1 hyl hal h2 hT
          have hHT : Hu.HT zs n1 = true := by
            rw [Hu.ht_n hn1p]
            exact Tr.tm_of hdz.1 (fun x hx => by have := HZB.out x hx; exact ⟨by omega, by omega⟩)
          have hlen := Tr.tl_len hal hT
          obtain ⟨p, hp⟩ : ∃ p, Hid (n - 2 * F = p + 1) := ⟨n - 2 * F - 1, by show _ = _; omega⟩
          have hpb : (p : Int) < 1048576 := by have := hp.out; omega
          have hpe : (n : Int) - 2 * (F : Int) = (p : Int) + 1 := by have := hp.out; omega
          rw [hp.out] at hlen t2
          rw [Nat.add_sub_cancel] at t2
          have keyH := Hu.s_Hull (some ⟨g, 0, none⟩) n1 c zs wr hz.row (by omega)
          rw [hHT, Sp.pk_t, Sp.pk_t] at keyH
          have bB := sr.step.fresh (Nat.le_refl _)
          have HO : Hid (Ow.Own wr x4.heap.size g' n c' (zs ++ ys)) := ho
          have HNN : Hid (n1 ≤ 1000) := by show _ ≤ _; omega
          clear hz hd hdz htm hHT ho
          generalize Hu.mnK zs n1 = mn at keyH t1 t3
          generalize Hu.mxK zs n1 = mx at keyH t2 t4
          go_wp2_with fail
          refine keyH.mono ?_
          rintro e x9 ⟨rfl, b9⟩
          have s9 := b9.size
          have B9 := b9.alloc s9 (.cells #[.int .i64 mn, .int .i64 mx] 31)
          have S9 := B9.size
          have o9 := HO.out.later B9 HO.out.lt
          go_wp2_with fail
          have key := Tr.i_Trimmed g' 0 n c' F (zs ++ ys) _ hal o9.lt (fun k hk => by rw [Nat.zero_add]; exact (o9.cell k hk).1) (by omega)
          unfold Tr.TR at key
          rw [hT, hlen] at key
          refine key.mono ?_
          rintro e x10 ⟨⟨g10, o10, c10, rfl, h10⟩, b10⟩
          have s10 := b10.size
          have l10 := o9.later b10 o9.lt
          clear key
          go_wp2_with fail
          have keyM := Tr.i_MiddleOf g' 0 n c' F (zs ++ ys) x10 hal l10.lt (fun k hk => by rw [Nat.zero_add]; exact (l10.cell k hk).1) (by omega)
          rw [hT] at keyM
          generalize Tr.MV (zs ++ ys) n F = M at keyM t3 t4
          refine keyM.mono ?_
          rintro e x11 ⟨rfl, b11⟩
          have s11 := b11.size
          have h11 := h10.later b11 h10.2.2.1
          have c0 := h11.2.2.2.1 0 (by omega)
          have c1 := h11.2.2.2.1 p (by omega)
          rw [Nat.add_zero] at c0
          have z9 : x9.heap.size < (x9.alloc (.cells #[.int .i64 mn, .int .i64 mx] 31)).heap.size := by simp
          have qa : x11.cell? ⟨x9.heap.size, 0, none⟩ = some (.int .i64 mn) := by
            rw [b11.cell (p := ⟨x9.heap.size, 0, none⟩) (by show x9.heap.size < x10.heap.size; omega), b10.cell (p := ⟨x9.heap.size, 0, none⟩) z9]; exact Sp.cell_at _ _ _ _ _ rfl
          have qb : x11.cell? ⟨x9.heap.size, 1, none⟩ = some (.int .i64 mx) := by
            rw [b11.cell (p := ⟨x9.heap.size, 1, none⟩) (by show x9.heap.size < x10.heap.size; omega), b10.cell (p := ⟨x9.heap.size, 1, none⟩) z9]; exact Sp.cell_at _ _ _ _ _ rfl
          have bE := ((bB.trans (B9.mono bB.size)).trans (b10.mono (by have := bB.size; omega))).trans (b11.mono (by have := bB.size; omega))
          clear h10 h11 l10 o9 b9 B9 b10 b11 keyM keyH sr bB
          go_wp2
          go_quiet (fail)
          go_wp2
          go_ret
          exact ⟨rfl, below_drewN bE _⟩
  · go_enter Try.func4, Try.ntmps4
    go_wp2_with (go_at_call 10; refine (great a0 len0 cap0 hl _).mono ?_; rintro e w' ⟨rfl, rfl⟩)
    go_ret
    exact ⟨rfl, Below.refl _ _⟩

/-! The row. -/
set_option maxRecDepth 100000 in
theorem lifted (os : Os) (started : os.Started) (H : Type) (enc : TypeId × Value → H) :
    ReturnsInHanded {} Try.checked os 4 .any (Rows.fnTrimSpec.pre6 enc Try.prog Try.f4 Rows.fnTrimRow.domain false) (Rows.fnTrimSpec.post enc Try.prog Try.f4 false true false false) := by
  refine returnsInHanded_of_change (C := Try.checked) own started (by kernel_rfl) Try.func4
    (ChangeSpec.witness6 (enc := enc) (C := Try.checked) false ⟨#[], #[.slice none 0 0], []⟩ 8 (by kernel_rfl) (by kernel_rfl) (by kernel_rfl) (by kernel_rfl)) ?_
  intro W base args ds gs before hval0 hW hcnd _
  have hval : ∀ (j : Nat) t v, Try.f4.params[j]? = some t → args[j]? = some v → Value.okWide Try.prog W .any base t v := hval0
  have hW' := hW
  obtain ⟨p, q, hA0, hV, rfl, hfz, hnd⟩ := hW
  have hA : DataW.TrodAll enc Try.prog W 0 (fun _ => true) true Try.f4.params.toList args.toList ds p := hA0
  rw [Try.params4] at hA hval
  obtain ⟨v0, vs0, d0, ds0, p0, q0, hargs, rfl, rfl, h0, r0⟩ := trodAll_cons hA
  obtain ⟨rfl, rfl, rfl⟩ := trodAll_nil r0
  obtain rfl : args = #[v0] := by cases args; simp_all
  obtain ⟨rfl, rfl⟩ := trodVars_none hV
  obtain ⟨a0, len0, cap0, rfl⟩ := okWide_slice Try.underlying22 (hval 0 22 v0 rfl rfl)
  have k0 := h0
  have lt0 : ∀ x ∈ p0, x.block < W.heap.size := by obtain ⟨m, hm⟩ := k0; exact DataW.trod_lt m _ _ _ hm
  obtain ⟨z0, w0⟩ : ∃ zs, IsRow .u8 W a0 len0 cap0 zs := by
    obtain ⟨fuel, hf⟩ := h0
    rcases open_ints Try.underlying22 Try.underlying5 (by kernel_rfl) hf with ⟨hcs, _⟩ | ⟨x, l, c, zs, hcs, _, hl, hm, hz, _, hcell, hwz⟩
    · simp [Value.cells] at hcs
      obtain ⟨rfl, rfl, rfl⟩ := hcs
      exact ⟨[], .inl ⟨rfl, rfl, rfl, rfl⟩⟩
    · simp [Value.cells] at hcs
      obtain ⟨rfl, rfl, rfl⟩ := hcs
      exact ⟨zs, .inr ⟨_, rfl, hl, hm, by simpa using hz, hcell, hwz⟩⟩
  clear hA0 hval0
  refine (walk a0 len0 cap0 z0 W w0).mono fun e W' ⟨he, bel⟩ => ?_
  subst he
  exact ⟨_, rfl, _, _, _, [], _, [], hW', trodAll_mk1 (shut_bool Try.underlying4 _), (trodAll_cons_mk (Below.trod laidOut (by kernel_rfl) (of_decide_eq_true (by kernel_rfl)) k0 bel lt0) trodAll_mk0), rfl, bel.frame _, fun h => by cases h⟩

theorem over : Rows.fnTrimRow.holds Try.pinned (OpenSpec.ofChange Rows.fnTrimSpec) :=
  OpenClaim.holds_of_wide 4 Try.f4 rfl rfl rfl rfl rfl rfl rfl ⟨rfl, rfl, rfl, rfl, rfl⟩ rfl rfl rfl rfl rfl (by kernel_rfl) Try.func4 (by kernel_rfl)
    (of_decide_eq_true (by kernel_rfl)) (by unfold Func.isWrapper; first | (rw [if_pos (by decide +kernel)]; kernel_rfl) | (rw [if_neg (by decide +kernel)]; exact ⟨rfl, rfl⟩))
    (fun os started H enc _ => lifted os started H enc)

end Go.Proofs.Ytpablkflchcjiaa.fnTrim

namespace Go.Proofs.Ytpablkflchcjiaa
/-- The given statement. -/
theorem fnTrim_holds : Rows.FnTrimSaid := fnTrim.over
#print axioms fnTrim_holds
end Go.Proofs.Ytpablkflchcjiaa
