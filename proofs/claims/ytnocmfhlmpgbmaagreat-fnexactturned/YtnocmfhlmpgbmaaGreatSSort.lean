/-
  The Go function spec.Sorted by its walk: the sorted list, in new memory.
-/
import Derived.Test.YtnocmfhlmpgbmaaGreatIns
namespace Go.Proofs.YtnocmfhlmpgbmaaGreat.Ow
open Go.ChangeShapes Go.WideShapes Go.ChangeAt Go.RowKit Go.Sort
open Ls (el Row)
set_option linter.unusedVariables false

/-- append to a slice of the call's own, as one step of a region that draws its order. -/
theorem step_own {P : Program} {ops : Array Oper} {o : Oper} {a : Act} {w : World} {K : Act → World → Prop} {Q : Exit → Act → World → Prop} {E : Prop} (hgd : o.guard = none) (s x : Operand) (t : TypeId)
    (ho : o.op = .call { callee := .builtin .append, args := #[s, x], argTypes := #[t, t] })
    (base : Nat) (e : TypeId) (i : TypeInfo) (z : Value) (size bytes : Nat) (ht : P.underlying t = some (.slice e)) (hi : P.info? e = some i) (hz : i.zero = some z)
    (hsize : i.size = size) (hby : i.bytes = bytes) (hzs : z.cells.size = size) (hsz : 0 < size)
    (v : Value) (n : Nat) (xs : List Value) (hs : a.eval s = v) (hown : w.ownsRow base e size v n xs)
    (ad : Addr) (m c : Nat) (news : List Value) (hx : a.eval x = .slice (some ad) m c) (hl : news.length = m * size) (hnews : ∀ j u, news[j]? = some u → w.cell? (ad.add j) = some u) (h1 : ∀ u ∈ news, u.oneCell' = true)
    (h63 : n + m ≤ maxLen) (hbytes : (n + m) * bytes ≤ 140737488355328) (hbase : base ≤ w.heap.size)
    (h : ∀ v' w', w'.ownsRow base e size v' (n + m) (xs ++ news) → w.grownBy w' v.ownBlock → (v' = .slice none 0 0 ↔ v = .slice none 0 0 ∧ m = 0) → K (a.put o.dst v') w') :
    if Region.wanted o (yielded ops a.tmps) = true then Oper.wp P o a w K Q else E := by
  have hw : Region.wanted o (yielded ops a.tmps) = true := by simp [Region.wanted, hgd]
  rw [if_pos hw]
  exact wp_append_own w s x t ho base e i z size bytes ht hi hz hsize hby hzs hsz v n xs hs hown ad m c news hx hl hnews h1 h63 hbytes hbase h

theorem no_nilS {v v' : Value} {p : Prop} {a : Addr} {n c : Nat} (h : v' = .slice none 0 0 ↔ v = .slice none 0 0 ∧ p) (hv : v = .slice (some a) n c) : v' ≠ .slice none 0 0 := fun e => by
  have := (h.1 e).1
  rw [hv] at this
  cases this

theorem one_newS (w : World) (x : Int) (t : TypeId) (b : Nat) (hb : b = w.heap.size) : ∀ j u, (ints [x])[j]? = some u → (w.alloc (.cells #[.int .i64 x] t)).cell? ((⟨b, 0, none⟩ : Addr).add j) = some u := by
  intro j u hj
  subst hb
  match j, hj with
  | 0, hj =>
    rw [addr_add]
    simp [ints] at hj
    subst hj
    simp
  | j + 1, hj => simp [ints] at hj

theorem drop_el (xs : List Int) (m j : Nat) : el (xs.drop m) j = el xs (m + j) := by simp [el, List.getD]

/-- Behind the copy of what comes behind. -/
theorem after0 {w W w1 : World} {B g k c m l : Nat} {xs : List Int} {v1 : Value} (ho : Own W B g k c xs) (hB : Below B w W)
    (h : w1.ownsRow W.heap.size 2 1 v1 l (ints (xs.drop m))) (hg : (W.alloc (.cells #[] 2)).grownBy w1 (some W.heap.size)) (hn : v1 ≠ .slice none 0 0) (hBW : B ≤ W.heap.size) :
    (∃ g1 c1, v1 = .slice (some ⟨g1, 0, none⟩) l c1 ∧ Own w1 W.heap.size g1 l c1 (xs.drop m) ∧ g1 ≠ g) ∧ Own w1 B g k c xs ∧ Below W.heap.size W w1 ∧ Below B w w1 := by
  have hb1 : Below W.heap.size W w1 := ((Below.refl _ _).alloc (Nat.le_refl _) _).grown hg (by simp) (by intro j hj; cases hj; exact Nat.le_refl _)
  obtain ⟨g1, c1, e, ho1⟩ := own_of h rfl hn
  exact ⟨⟨g1, c1, e, ho1, by have := ho1.data.2.1; have := ho.lt; omega⟩, ho.later hb1 ho.lt, hb1, hB.trans (hb1.mono hBW)⟩

theorem after1 {w w1 w2 : World} {B R g g1 c1 m l : Nat} {xs ys : List Int} {x : Int} {v2 : Value} {o : Obj} (hB : Below B w w1) (hBs : B ≤ w1.heap.size) (hgB : B ≤ g) (hne : g1 ≠ g) (hr : Own w1 R g1 l c1 ys)
    (h : w2.ownsRow B 2 1 v2 (m + 1) (ints (xs.take m) ++ ints [x])) (hg : (w1.drew.alloc o).grownBy w2 (some g)) (hn : v2 ≠ .slice none 0 0) :
    (∃ g2 c2, v2 = .slice (some ⟨g2, 0, none⟩) (m + 1) c2 ∧ Own w2 B g2 (m + 1) c2 (xs.take m ++ [x])) ∧ Own w2 R g1 l c1 ys ∧ Below B w w2 ∧ B ≤ w2.heap.size := by
  obtain ⟨g2, c2, e, ho2⟩ := own_of (zs := xs.take m ++ [x]) h (by simp [ints]) hn
  have hr' : Own (w1.drew.alloc o) R g1 l c1 ys := World.ownsRow.alloc (w := w1.drew) hr o
  exact ⟨⟨g2, c2, e, ho2⟩, hr'.kept hg (.inr (by simp [Value.ownBlock]; exact hne)), (hB.drew.alloc hBs _).grown hg (by simp; omega) (by intro j hj; cases hj; exact hgB), by have := hg.size; simp at this; omega⟩

theorem after2 {w w2 w3 : World} {B g2 m l k : Nat} {zs xs ys : List Int} {v3 : Value} (hB : Below B w w2) (hBs : B ≤ w2.heap.size) (hgB : B ≤ g2)
    (h : w3.ownsRow B 2 1 v3 (m + 1 + l) (ints xs ++ ints ys)) (hg : w2.grownBy w3 (some g2)) (hn : v3 ≠ .slice none 0 0) (hl : m + 1 + l = k + 1) (he : xs ++ ys = insK zs (k + 1)) :
    (∃ g3 c3, v3 = .slice (some ⟨g3, 0, none⟩) (k + 1) c3 ∧ Own w3 B g3 (k + 1) c3 (insK zs (k + 1))) ∧ Below B w w3 := by
  rw [hl] at h
  obtain ⟨g3, c3, e, ho3⟩ := own_of (zs := insK zs (k + 1)) h (by rw [← he]; simp [ints]) hn
  exact ⟨⟨g3, c3, e, ho3⟩, hB.grown hg hBs (by intro j hj; cases hj; exact hgB)⟩

theorem cut_at (g c m : Nat) : ∃ o, Hid ((if c = m then some ⟨g, 0, none⟩ else some ⟨g, m, none⟩ : Option Addr) = some ⟨g, o, none⟩) ∧ Hid (c ≠ m → o = m) := by
  by_cases h : c = m
  · exact ⟨0, by show _ = _; rw [if_pos h], fun h2 => absurd h h2⟩
  · exact ⟨m, by show _ = _; rw [if_neg h], fun _ => rfl⟩

set_option maxHeartbeats 4000000 in
theorem s_Sorted (b off n cap : Nat) (zs : List Int) (w : World) (hz : zs.length = n) (hc : ∀ k, k < n → w.cell? ⟨b, off + k, none⟩ = some (.int .i64 (el zs k))) (hn : n ≤ 1048576) (hbB : b < w.heap.size ∨ n = 0) :
    Calls Tryz.prog 106 #[.slice (some ⟨b, off, none⟩) n cap] w fun e w' => (∃ g c, e = .returned (.slice (some ⟨g, 0, none⟩) n c) ∧ Own w' w.heap.size g n c (srt zs)) ∧ Below w.heap.size w w' := by
  obtain ⟨i0, hi, hz0, hz1, hz2⟩ := info_parts Ls.info
  have HbB : Hid (b < w.heap.size ∨ n = 0) := hbB
  have HC0 : Hid (∀ k, k < n → w.cell? ⟨b, off + k, none⟩ = some (.int .i64 (el zs k))) := hc
  clear hbB hc
  go_enter Tryz.func106, Tryz.ntmps106
  go_wp2
  go_loopw [3, 4] (fun v i wr => ∃ k g c : Nat, k ≤ n ∧ i = .int .i64 k ∧ v = .slice (some ⟨g, 0, none⟩) k c ∧ Own wr w.heap.size g k c (insK zs k) ∧ Below w.heap.size w wr) (fun _ i _ => n - (intOf i).toNat)
  case atStart => exact ⟨0, _, _, Nat.zero_le _, rfl, rfl, World.ownsRow_made w #[] 0 (Nat.le_refl _) (by unfold maxLen; omega) rfl, (Below.refl _ _).alloc (Nat.le_refl _) _⟩
  case round =>
    obtain ⟨k, g, c, hk, rfl, rfl, ho, hB⟩ := hrel
    by_cases hlt : k < n
    · have hi' : (k : Int) < n := by omega
      obtain ⟨x, HX⟩ : ∃ x, Hid (x = el zs k) := ⟨_, rfl⟩
      obtain ⟨xs, HS⟩ : ∃ xs, Hid (xs = insK zs k) := ⟨_, rfl⟩
      have hb0 : b < w.heap.size := by have := HbB.out; omega
      have hc1 : wr.cell? ⟨b, off + k, none⟩ = some (.int .i64 x) := by rw [hB.cell (p := ⟨b, off + k, none⟩) (by simp; omega), HX.out]; exact HC0.out k hlt
      rw [← HS.out] at ho
      have hs1 := hB.size
      go_wp2
      go_loopw [5] (fun j wq => ∃ m : Nat, m ≤ k ∧ j = .int .i64 m ∧ pos xs x m = pos xs x k ∧ Own wq w.heap.size g k c xs ∧ wq.cell? ⟨b, off + k, none⟩ = some (.int .i64 x) ∧ Below w.heap.size w wq) (fun j _ => (intOf j).toNat)
      case atStart => exact ⟨k, Nat.le_refl _, rfl, rfl, ho, hc1, hB⟩
      case round =>
        obtain ⟨m, hm, rfl, hp, ho1, hc2, hB1⟩ := hrel
        by_cases h0 : m = 0
        · have hm0 : decide (0 < m) = false := by simp; omega
          have HM : Hid (m = pos xs x k) := by show m = _; rw [← hp, h0]; rfl
          clear h0 hp
          have hmk : (m : Int) ≤ k := by omega
          have hd1 := ho1.data
          have hkc : k ≤ c := hd1.2.2.1
          have hkc' : (k : Int) ≤ c := by omega
          have hkm : k ≤ maxLen := by have := hd1.2.2.2.1; omega
          have hmc : m ≤ c := by omega
          have hmc' : (m : Int) ≤ c := by omega
          have hs2 := hB1.size
          have hgl := ho1.lt
          by_cases hcm : m = c
          · subst hcm
            have HC : ∀ j, j < k - m → wr.cell? ⟨g, 0 + j, none⟩ = some (.int .i64 (el (xs.drop m) j)) := fun j hj => by
              omega
            have HN : Hid (∀ (q : Nat) (ob : Obj), ∀ j u, (ints (xs.drop m))[j]? = some u → ((wr.drewN q).alloc ob).cell? ((⟨g, 0, none⟩ : Addr).add j) = some u) := fun q ob => news (n := k - m) (by simp; omega) (fun j hj => by rw [World.cell?_alloc_lt _ _ _ (by exact hgl)]; exact HC j hj)
            clear HC
            go_wp2
            go_quiet (fail)
            go_wp2_with (at_builtin; refine wpList_append_own _ rfl (.tmp 32) (.tmp 35) 26 rfl wr.heap.size 2 i0 (.int .i64 0) 1 8 Tryz.underlying26 hi hz0 hz1 hz2 rfl (by decide) _ _ _ rfl (World.ownsRow_made (wr.drewN nq) #[] 0 (Nat.le_refl _) (by unfold maxLen; omega) rfl) ⟨g, 0, none⟩ _ _ (ints (xs.drop m)) rfl (by rw [ints_len, List.length_drop]; omega) (HN.out _ _) (one _) (by unfold maxLen; omega) (by omega) (by simp) ?_; intro v1 w1 hx1 hg1 hn1)
            rw [Nat.zero_add, List.nil_append] at hx1
            obtain ⟨⟨g1, c1, rfl, hr1, hne⟩, ho2, hb1, hB2⟩ := after0 (w := w) (W := wr.drewN nq) (m := m) ho1 (below_drewN hB1 nq) hx1 hg1 (no_nilS hn1 rfl) (by show _ ≤ wr.heap.size; omega)
            have hc3 : w1.cell? ⟨b, off + k, none⟩ = some (.int .i64 x) := by rw [hb1.cell (p := ⟨b, off + k, none⟩) (by show _ < wr.heap.size; simp; omega)]; exact hc2
            have hs3 : w.heap.size ≤ w1.heap.size := hB2.size
            have HR1 : Hid (Own w1 wr.heap.size g1 _ c1 (xs.drop m)) := hr1
            have HO2 : Hid (Own w1 w.heap.size g k _ xs) := ho2
            have hgB : w.heap.size ≤ g := hd1.2.1
            clear hx1 hg1 hn1 hr1 ho2 ho1 ho hc1 hc2 HN hb1
            go_wp2_with fail
            go_region_law (first
              | (refine step_own rfl (.tmp 39) (.tmp 44) 26 rfl w.heap.size 2 i0 (.int .i64 0) 1 8 Tryz.underlying26 hi hz0 hz1 hz2 rfl (by decide) _ _ _ rfl (World.ownsRow.alloc (w := w1.drew) (HO2.out.take m (by omega)) _) ⟨w1.heap.size, 0, none⟩ 1 1 (ints [x]) rfl rfl (one_newS w1.drew x _ _ rfl) (one _) (by unfold maxLen; omega) (by omega) (by simp; omega) ?_; intro v2 w2 hx2 hg2 hn2; obtain ⟨⟨g2, c2, rfl, ho3⟩, hr2, hB3, hs4⟩ := after1 (w := w) hB2 hs3 hgB hne HR1.out hx2 hg2 (no_nilS hn2 rfl); clear hx2 hg2 hn2)
              | (refine step_own rfl (.tmp 45) (.tmp 46) 26 rfl w.heap.size 2 i0 (.int .i64 0) 1 8 Tryz.underlying26 hi hz0 hz1 hz2 rfl (by decide) _ _ _ rfl ho3 ⟨g1, 0, none⟩ _ c1 (ints (xs.drop m)) rfl (by rw [ints_len, List.length_drop]; omega) (news (n := _) hr2.data.1 (fun j hj => by rw [Nat.zero_add]; exact (hr2.cell j hj).1)) (one _) (by unfold maxLen; omega) (by omega) hs4 ?_; intro v3 w3 hx3 hg3 hn3; obtain ⟨⟨g3, c3, rfl, ho4⟩, hB4⟩ := after2 (w := w) (k := k) (zs := zs) hB3 hs4 ho3.data.2.1 hx3 hg3 (no_nilS hn3 rfl) (by omega) (by rw [insK_step (p := m) (by rw [← HS.out, ← HX.out]; exact HM.out), ← HS.out, ← HX.out]); clear hx3 hg3 hn3 ho3 hr2))
            all_goals
              go_wp2_with fail
              go_roundw
              case rel => exact ⟨k + 1, g3, c3, by omega, by go_num, rfl, ho4, hB4⟩
              case measure => simp [intOf]; omega
          · have hcm' : ¬ c = m := fun e => hcm e.symm
            clear hcm
            have HC : ∀ j, j < k - m → wr.cell? ⟨g, m + j, none⟩ = some (.int .i64 (el (xs.drop m) j)) := fun j hj => by
              rw [drop_el]; exact (ho1.cell (m + j) (by omega)).1
            have HN : Hid (∀ (q : Nat) (ob : Obj), ∀ j u, (ints (xs.drop m))[j]? = some u → ((wr.drewN q).alloc ob).cell? ((⟨g, m, none⟩ : Addr).add j) = some u) := fun q ob => news (n := k - m) (by simp; omega) (fun j hj => by rw [World.cell?_alloc_lt _ _ _ (by exact hgl)]; exact HC j hj)
            clear HC
            go_wp2
            go_quiet (fail)
            go_wp2_with (at_builtin; refine wpList_append_own _ rfl (.tmp 32) (.tmp 35) 26 rfl wr.heap.size 2 i0 (.int .i64 0) 1 8 Tryz.underlying26 hi hz0 hz1 hz2 rfl (by decide) _ _ _ rfl (World.ownsRow_made (wr.drewN nq) #[] 0 (Nat.le_refl _) (by unfold maxLen; omega) rfl) ⟨g, m, none⟩ _ _ (ints (xs.drop m)) rfl (by rw [ints_len, List.length_drop]; omega) (HN.out _ _) (one _) (by unfold maxLen; omega) (by omega) (by simp) ?_; intro v1 w1 hx1 hg1 hn1)
            rw [Nat.zero_add, List.nil_append] at hx1
            obtain ⟨⟨g1, c1, rfl, hr1, hne⟩, ho2, hb1, hB2⟩ := after0 (w := w) (W := wr.drewN nq) (m := m) ho1 (below_drewN hB1 nq) hx1 hg1 (no_nilS hn1 rfl) (by show _ ≤ wr.heap.size; omega)
            have hc3 : w1.cell? ⟨b, off + k, none⟩ = some (.int .i64 x) := by rw [hb1.cell (p := ⟨b, off + k, none⟩) (by show _ < wr.heap.size; simp; omega)]; exact hc2
            have hs3 : w.heap.size ≤ w1.heap.size := hB2.size
            have HR1 : Hid (Own w1 wr.heap.size g1 _ c1 (xs.drop m)) := hr1
            have HO2 : Hid (Own w1 w.heap.size g k _ xs) := ho2
            have hgB : w.heap.size ≤ g := hd1.2.1
            clear hx1 hg1 hn1 hr1 ho2 ho1 ho hc1 hc2 HN hb1
            go_wp2_with fail
            go_region_law (first
              | (refine step_own rfl (.tmp 39) (.tmp 44) 26 rfl w.heap.size 2 i0 (.int .i64 0) 1 8 Tryz.underlying26 hi hz0 hz1 hz2 rfl (by decide) _ _ _ rfl (World.ownsRow.alloc (w := w1.drew) (HO2.out.take m (by omega)) _) ⟨w1.heap.size, 0, none⟩ 1 1 (ints [x]) rfl rfl (one_newS w1.drew x _ _ rfl) (one _) (by unfold maxLen; omega) (by omega) (by simp; omega) ?_; intro v2 w2 hx2 hg2 hn2; obtain ⟨⟨g2, c2, rfl, ho3⟩, hr2, hB3, hs4⟩ := after1 (w := w) hB2 hs3 hgB hne HR1.out hx2 hg2 (no_nilS hn2 rfl); clear hx2 hg2 hn2)
              | (refine step_own rfl (.tmp 45) (.tmp 46) 26 rfl w.heap.size 2 i0 (.int .i64 0) 1 8 Tryz.underlying26 hi hz0 hz1 hz2 rfl (by decide) _ _ _ rfl ho3 ⟨g1, 0, none⟩ _ c1 (ints (xs.drop m)) rfl (by rw [ints_len, List.length_drop]; omega) (news (n := _) hr2.data.1 (fun j hj => by rw [Nat.zero_add]; exact (hr2.cell j hj).1)) (one _) (by unfold maxLen; omega) (by omega) hs4 ?_; intro v3 w3 hx3 hg3 hn3; obtain ⟨⟨g3, c3, rfl, ho4⟩, hB4⟩ := after2 (w := w) (k := k) (zs := zs) hB3 hs4 ho3.data.2.1 hx3 hg3 (no_nilS hn3 rfl) (by omega) (by rw [insK_step (p := m) (by rw [← HS.out, ← HX.out]; exact HM.out), ← HS.out, ← HX.out]); clear hx3 hg3 hn3 ho3 hr2))
            all_goals
              go_wp2_with fail
              go_roundw
              case rel => exact ⟨k + 1, g3, c3, by omega, by go_num, rfl, ho4, hB4⟩
              case measure => simp [intOf]; omega
        · have hm0 : decide (0 < m) = true := by simp; omega
          obtain ⟨t, ht⟩ : ∃ t, Hid (m = t + 1) := ⟨m - 1, by show m = _; omega⟩
          have e1 : (m : Int) - 1 = (t : Int) := by have := ht.out; omega
          have hct := (ho1.cell t (by have := ht.out; omega)).1
          have htk : (t : Int) < k := by have := ht.out; omega
          cases hd : decide (x < el xs t) with
          | true =>
            have HP : Hid (pos xs x t = pos xs x k) := by show pos xs x t = _; rw [← hp, ht.out, pos_yes (of_decide_eq_true hd)]
            go_wp2
            go_quiet (fail)
            go_wp2
            go_roundw
            case rel => exact ⟨t, by have := ht.out; omega, by go_num, HP.out, ho1, hc2, below_drewN hB1 _⟩
            case measure => simp [intOf]; have := ht.out; omega
          | false =>
            have HM : Hid (m = pos xs x k) := by show m = _; rw [← hp, ht.out, pos_no (of_decide_eq_false hd)]
            clear h0 hp
            have hmk : (m : Int) ≤ k := by omega
            have hd1 := ho1.data
            have hkc : k ≤ c := hd1.2.2.1
            have hkc' : (k : Int) ≤ c := by omega
            have hkm : k ≤ maxLen := by have := hd1.2.2.2.1; omega
            have hmc : m ≤ c := by omega
            have hmc' : (m : Int) ≤ c := by omega
            have hs2 := hB1.size
            have hgl := ho1.lt
            by_cases hcm : m = c
            · subst hcm
              have HC : ∀ j, j < k - m → wr.cell? ⟨g, 0 + j, none⟩ = some (.int .i64 (el (xs.drop m) j)) := fun j hj => by
                omega
              have HN : Hid (∀ (q : Nat) (ob : Obj), ∀ j u, (ints (xs.drop m))[j]? = some u → ((wr.drewN q).alloc ob).cell? ((⟨g, 0, none⟩ : Addr).add j) = some u) := fun q ob => news (n := k - m) (by simp; omega) (fun j hj => by rw [World.cell?_alloc_lt _ _ _ (by exact hgl)]; exact HC j hj)
              clear HC
              go_wp2
              go_quiet (fail)
              go_wp2_with (at_builtin; refine wpList_append_own _ rfl (.tmp 32) (.tmp 35) 26 rfl wr.heap.size 2 i0 (.int .i64 0) 1 8 Tryz.underlying26 hi hz0 hz1 hz2 rfl (by decide) _ _ _ rfl (World.ownsRow_made (wr.drewN nq) #[] 0 (Nat.le_refl _) (by unfold maxLen; omega) rfl) ⟨g, 0, none⟩ _ _ (ints (xs.drop m)) rfl (by rw [ints_len, List.length_drop]; omega) (HN.out _ _) (one _) (by unfold maxLen; omega) (by omega) (by simp) ?_; intro v1 w1 hx1 hg1 hn1)
              rw [Nat.zero_add, List.nil_append] at hx1
              obtain ⟨⟨g1, c1, rfl, hr1, hne⟩, ho2, hb1, hB2⟩ := after0 (w := w) (W := wr.drewN nq) (m := m) ho1 (below_drewN hB1 nq) hx1 hg1 (no_nilS hn1 rfl) (by show _ ≤ wr.heap.size; omega)
              have hc3 : w1.cell? ⟨b, off + k, none⟩ = some (.int .i64 x) := by rw [hb1.cell (p := ⟨b, off + k, none⟩) (by show _ < wr.heap.size; simp; omega)]; exact hc2
              have hs3 : w.heap.size ≤ w1.heap.size := hB2.size
              have HR1 : Hid (Own w1 wr.heap.size g1 _ c1 (xs.drop m)) := hr1
              have HO2 : Hid (Own w1 w.heap.size g k _ xs) := ho2
              have hgB : w.heap.size ≤ g := hd1.2.1
              clear hx1 hg1 hn1 hr1 ho2 ho1 ho hc1 hc2 HN hb1
              go_wp2_with fail
              go_region_law (first
                | (refine step_own rfl (.tmp 39) (.tmp 44) 26 rfl w.heap.size 2 i0 (.int .i64 0) 1 8 Tryz.underlying26 hi hz0 hz1 hz2 rfl (by decide) _ _ _ rfl (World.ownsRow.alloc (w := w1.drew) (HO2.out.take m (by omega)) _) ⟨w1.heap.size, 0, none⟩ 1 1 (ints [x]) rfl rfl (one_newS w1.drew x _ _ rfl) (one _) (by unfold maxLen; omega) (by omega) (by simp; omega) ?_; intro v2 w2 hx2 hg2 hn2; obtain ⟨⟨g2, c2, rfl, ho3⟩, hr2, hB3, hs4⟩ := after1 (w := w) hB2 hs3 hgB hne HR1.out hx2 hg2 (no_nilS hn2 rfl); clear hx2 hg2 hn2)
                | (refine step_own rfl (.tmp 45) (.tmp 46) 26 rfl w.heap.size 2 i0 (.int .i64 0) 1 8 Tryz.underlying26 hi hz0 hz1 hz2 rfl (by decide) _ _ _ rfl ho3 ⟨g1, 0, none⟩ _ c1 (ints (xs.drop m)) rfl (by rw [ints_len, List.length_drop]; omega) (news (n := _) hr2.data.1 (fun j hj => by rw [Nat.zero_add]; exact (hr2.cell j hj).1)) (one _) (by unfold maxLen; omega) (by omega) hs4 ?_; intro v3 w3 hx3 hg3 hn3; obtain ⟨⟨g3, c3, rfl, ho4⟩, hB4⟩ := after2 (w := w) (k := k) (zs := zs) hB3 hs4 ho3.data.2.1 hx3 hg3 (no_nilS hn3 rfl) (by omega) (by rw [insK_step (p := m) (by rw [← HS.out, ← HX.out]; exact HM.out), ← HS.out, ← HX.out]); clear hx3 hg3 hn3 ho3 hr2))
              all_goals
                go_wp2_with fail
                go_roundw
                case rel => exact ⟨k + 1, g3, c3, by omega, by go_num, rfl, ho4, hB4⟩
                case measure => simp [intOf]; omega
            · have hcm' : ¬ c = m := fun e => hcm e.symm
              clear hcm
              have HC : ∀ j, j < k - m → wr.cell? ⟨g, m + j, none⟩ = some (.int .i64 (el (xs.drop m) j)) := fun j hj => by
                rw [drop_el]; exact (ho1.cell (m + j) (by omega)).1
              have HN : Hid (∀ (q : Nat) (ob : Obj), ∀ j u, (ints (xs.drop m))[j]? = some u → ((wr.drewN q).alloc ob).cell? ((⟨g, m, none⟩ : Addr).add j) = some u) := fun q ob => news (n := k - m) (by simp; omega) (fun j hj => by rw [World.cell?_alloc_lt _ _ _ (by exact hgl)]; exact HC j hj)
              clear HC
              go_wp2
              go_quiet (fail)
              go_wp2_with (at_builtin; refine wpList_append_own _ rfl (.tmp 32) (.tmp 35) 26 rfl wr.heap.size 2 i0 (.int .i64 0) 1 8 Tryz.underlying26 hi hz0 hz1 hz2 rfl (by decide) _ _ _ rfl (World.ownsRow_made (wr.drewN nq) #[] 0 (Nat.le_refl _) (by unfold maxLen; omega) rfl) ⟨g, m, none⟩ _ _ (ints (xs.drop m)) rfl (by rw [ints_len, List.length_drop]; omega) (HN.out _ _) (one _) (by unfold maxLen; omega) (by omega) (by simp) ?_; intro v1 w1 hx1 hg1 hn1)
              rw [Nat.zero_add, List.nil_append] at hx1
              obtain ⟨⟨g1, c1, rfl, hr1, hne⟩, ho2, hb1, hB2⟩ := after0 (w := w) (W := wr.drewN nq) (m := m) ho1 (below_drewN hB1 nq) hx1 hg1 (no_nilS hn1 rfl) (by show _ ≤ wr.heap.size; omega)
              have hc3 : w1.cell? ⟨b, off + k, none⟩ = some (.int .i64 x) := by rw [hb1.cell (p := ⟨b, off + k, none⟩) (by show _ < wr.heap.size; simp; omega)]; exact hc2
              have hs3 : w.heap.size ≤ w1.heap.size := hB2.size
              have HR1 : Hid (Own w1 wr.heap.size g1 _ c1 (xs.drop m)) := hr1
              have HO2 : Hid (Own w1 w.heap.size g k _ xs) := ho2
              have hgB : w.heap.size ≤ g := hd1.2.1
              clear hx1 hg1 hn1 hr1 ho2 ho1 ho hc1 hc2 HN hb1
              go_wp2_with fail
              go_region_law (first
                | (refine step_own rfl (.tmp 39) (.tmp 44) 26 rfl w.heap.size 2 i0 (.int .i64 0) 1 8 Tryz.underlying26 hi hz0 hz1 hz2 rfl (by decide) _ _ _ rfl (World.ownsRow.alloc (w := w1.drew) (HO2.out.take m (by omega)) _) ⟨w1.heap.size, 0, none⟩ 1 1 (ints [x]) rfl rfl (one_newS w1.drew x _ _ rfl) (one _) (by unfold maxLen; omega) (by omega) (by simp; omega) ?_; intro v2 w2 hx2 hg2 hn2; obtain ⟨⟨g2, c2, rfl, ho3⟩, hr2, hB3, hs4⟩ := after1 (w := w) hB2 hs3 hgB hne HR1.out hx2 hg2 (no_nilS hn2 rfl); clear hx2 hg2 hn2)
                | (refine step_own rfl (.tmp 45) (.tmp 46) 26 rfl w.heap.size 2 i0 (.int .i64 0) 1 8 Tryz.underlying26 hi hz0 hz1 hz2 rfl (by decide) _ _ _ rfl ho3 ⟨g1, 0, none⟩ _ c1 (ints (xs.drop m)) rfl (by rw [ints_len, List.length_drop]; omega) (news (n := _) hr2.data.1 (fun j hj => by rw [Nat.zero_add]; exact (hr2.cell j hj).1)) (one _) (by unfold maxLen; omega) (by omega) hs4 ?_; intro v3 w3 hx3 hg3 hn3; obtain ⟨⟨g3, c3, rfl, ho4⟩, hB4⟩ := after2 (w := w) (k := k) (zs := zs) hB3 hs4 ho3.data.2.1 hx3 hg3 (no_nilS hn3 rfl) (by omega) (by rw [insK_step (p := m) (by rw [← HS.out, ← HX.out]; exact HM.out), ← HS.out, ← HX.out]); clear hx3 hg3 hn3 ho3 hr2))
              all_goals
                go_wp2_with fail
                go_roundw
                case rel => exact ⟨k + 1, g3, c3, by omega, by go_num, rfl, ho4, hB4⟩
                case measure => simp [intOf]; omega
    · have hi : ¬ (k : Int) < n := by omega
      have e : k = n := by omega
      subst e
      rw [insK_srt hz] at ho
      go_wp2
      go_ret
      exact ⟨⟨g, c, rfl, ho⟩, hB⟩

end Go.Proofs.YtnocmfhlmpgbmaaGreat.Ow
