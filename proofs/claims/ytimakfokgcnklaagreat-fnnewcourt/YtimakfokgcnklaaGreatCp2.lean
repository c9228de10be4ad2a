/-
  slices.Compact at seals.
-/
import Derived.Test.YtimakfokgcnklaaGreatCp
import Derived.Lib.SliceRun
import Derived.RegionTactic
namespace Go.Proofs.YtimakfokgcnklaaGreat.Mi
open Go.ChangeShapes Go.WideShapes Go.ChangeAt Go.RowKit
open Sb (S3 es fl sl Row3 SHas fl_len fl_at)
open Og (OwnS)
open Mg (c3 neq3 eq_three neqS)
set_option linter.unusedVariables false
set_option linter.unusedSimpArgs false

theorem eql3 (a b c r k t : Int) (W : World) : (binOp .eql 125 (.agg #[.int .i64 a, .int .i64 b, .int .i64 c]) (.agg #[.int .i64 r, .int .i64 k, .int .i64 t])).run Tryz.prog W = .ok (.bool (decide (a = r ∧ b = k ∧ c = t))) W := by
  by_cases h1 : a = r
  · by_cases h2 : b = k
    · by_cases h3 : c = t
      · subst h1 h2 h3; simp [go_sem, Op.eqFields]
      · subst h1 h2; simp [go_sem, Op.eqFields, h3]
    · subst h1; simp [go_sem, Op.eqFields, h2]
  · simp [go_sem, Op.eqFields, h1]
theorem eqlS (x s : S3) (W : World) : (binOp .eql 125 (sl x) (sl s)).run Tryz.prog W = .ok (.bool (decide (x = s))) W := by
  rw [eql3]
  by_cases h : x = s
  · rw [decide_eq_true h, decide_eq_true (eq_three.2 h)]
  · rw [decide_eq_false h, decide_eq_false (fun q => h (eq_three.1 q))]

theorem own_put3 {w : World} {B g n c : Nat} {l : List S3} (h : OwnS w B g n c l) (k : Nat) (x : S3) : OwnS (((w.setCell ⟨g, k * 3, none⟩ (.int .i64 x.1)).setCell ⟨g, k * 3 + 1, none⟩ (.int .i64 x.2.1)).setCell ⟨g, k * 3 + 2, none⟩ (.int .i64 x.2.2)) B g n c (l.set k x) := by
  obtain ⟨hs, hc, hB⟩ := own_sh h
  have q := h.has.put k x
  rw [show 0 + k * 3 = k * 3 from Nat.zero_add _] at q
  refine own_back (((hs.set _ _ _).set _ _ _).set _ _ _) hB (by simp [h.len]) hc fun i v hv => ?_
  have := (q.2.2.2 i v hv).1
  rwa [Nat.zero_add] at this
theorem below_put3 {w0 w : World} {B g : Nat} (h : Below B w0 w) (hg : B ≤ g) (i : Nat) (a b c : Value) : Below B w0 (((w.setCell ⟨g, i, none⟩ a).setCell ⟨g, i + 1, none⟩ b).setCell ⟨g, i + 2, none⟩ c) :=
  ((h.setCell (p := ⟨g, i, none⟩) hg a).setCell (p := ⟨g, i + 1, none⟩) hg b).setCell (p := ⟨g, i + 2, none⟩) hg c

theorem Sh.sets {w : World} {g cap : Nat} (h : Sh w g cap) (vs : List Value) (i : Nat) : Sh (w.setCells g i vs) g cap := by
  induction vs generalizing w i with
  | nil => exact h
  | cons v vs ih => exact ih (h.set g i v) (i + 1)
theorem below_sets {w0 w : World} {B g : Nat} (h : Below B w0 w) (hg : B ≤ g) (vs : List Value) (i : Nat) : Below B w0 (w.setCells g i vs) := by
  induction vs generalizing w i with
  | nil => exact h
  | cons v vs ih => exact ih (h.setCell (p := ⟨g, i, none⟩) hg v) (i + 1)
theorem cell_sets {w : World} {g : Nat} (vs : List Value) (i j : Nat) (hj : j < i) : (w.setCells g i vs).cell? ⟨g, j, none⟩ = w.cell? ⟨g, j, none⟩ := by
  induction vs generalizing w i with
  | nil => rfl
  | cons v vs ih =>
    show ((w.setCell ⟨g, i, none⟩ v).setCells g (i + 1) vs).cell? _ = _
    rw [ih (i + 1) (by omega), World.cell?_setCell_other _ _ _ _ (by simp <;> omega)]
theorem fl_take (l : List S3) (k i : Nat) (v : Value) (h : (fl (l.take k))[i]? = some v) : (fl l)[i]? = some v ∧ i < k * 3 := by
  have hi : i < (l.take k).length * 3 := by
    have := (List.getElem?_eq_some_iff.1 h).1
    rw [fl_len] at this; exact this
  have hk : (l.take k).length ≤ k := by simp; omega
  have hl : (l.take k).length ≤ l.length := by simp; omega
  refine ⟨?_, by omega⟩
  rw [fl_three _ i hi] at h
  rw [fl_three l i (by omega), ← h]
  have : es (l.take k) (i / 3) = es l (i / 3) := by simp [es, List.getD, List.getElem?_take, show i / 3 < k by omega]
  rw [this]
/-- What lies behind k is cleared. -/
theorem own_cut {w : World} {B g n c k : Nat} {l : List S3} (h : OwnS w B g n c l) (hk : k ≤ n) (vs : List Value) : OwnS (w.setCells g (k * 3) vs) B g k c (l.take k) := by
  obtain ⟨hs, hc, hB⟩ := own_sh h
  refine own_back (hs.sets vs _) hB (by simp [h.len]; omega) (by omega) fun i v hv => ?_
  obtain ⟨q, hi⟩ := fl_take l k i v hv
  rw [cell_sets _ _ _ hi]
  exact (Og.own_cell h i v q).1
theorem run_clear3 {w : World} {B g n c k : Nat} {l : List S3} (h : OwnS w B g n c l) (hk : k < n) (ty : TypeId) (c' : Nat) :
    (Builtin.clear_ #[32] ty #[.slice (some ⟨g, k * 3, none⟩) (n - k) c']).run Tryz.prog w = .ok (.tuple #[]) (w.setCells g (k * 3) (Builtin.zeroCells #[.int .i64 0, .int .i64 0, .int .i64 0] (n - k)).toList) := by
  have zl : (Builtin.zeroCells #[.int .i64 0, .int .i64 0, .int .i64 0] (n - k)).toList.length = (n - k) * 3 := by simp [size_zeroCells]
  have cell : ∀ j, j < (n - k) * 3 → ∃ v, w.cell? ⟨g, k * 3 + j, none⟩ = some v ∧ w.frozen? ⟨g, k * 3 + j, none⟩ = false := fun j hj => by
    have hlt : k * 3 + j < (fl l).length := by rw [fl_len, h.len]; omega
    exact ⟨_, Og.own_cell h (k * 3 + j) _ (List.getElem?_eq_getElem hlt)⟩
  have hst := run_storeCells_cells (P := Tryz.prog) g (k * 3) (Builtin.zeroCells #[.int .i64 0, .int .i64 0, .int .i64 0] (n - k)).toList 0 w
    (fun j hj => by obtain ⟨v, hv, _⟩ := cell j (by omega); rw [Nat.add_zero, hv]; rfl)
    (fun j hj => by obtain ⟨v, _, hf⟩ := cell j (by omega); rw [Nat.add_zero]; exact hf)
    (fun v hv => by
      rw [Array.mem_toList_iff] at hv
      obtain ⟨i, hi, rfl⟩ := Array.mem_iff_getElem.1 hv
      simp only [Builtin.zeroCells, Array.getElem_map, Array.getElem_range]
      rcases (show i % 3 = 0 ∨ i % 3 = 1 ∨ i % 3 = 2 by omega) with e | e | e
      · show (#[Value.int .i64 0, Value.int .i64 0, Value.int .i64 0][i % 3]!).oneCell' = true
        rw [e]; rfl
      · show (#[Value.int .i64 0, Value.int .i64 0, Value.int .i64 0][i % 3]!).oneCell' = true
        rw [e]; rfl
      · show (#[Value.int .i64 0, Value.int .i64 0, Value.int .i64 0][i % 3]!).oneCell' = true
        rw [e]; rfl)
  simp only [Nat.add_zero] at hst
  obtain ⟨m, hm⟩ : ∃ m, n - k = m + 1 := ⟨n - k - 1, by omega⟩
  rw [hm] at hst ⊢
  have ht := Tryz.underlying32
  have hz : ∀ w, (zeroValue 125).run Tryz.prog w = .ok (.agg #[.int .i64 0, .int .i64 0, .int .i64 0]) w := Tryz.zeroValue125
  simp [Builtin.clear_, run_underlying ht, hz, Value.cells, hst]

set_option maxHeartbeats 8000000 in
set_option maxRecDepth 100000 in
theorem compact (g n c B : Nat) (l : List S3) (w : World) (h : OwnS w B g n c l) (hn : n ≤ 4194304) :
    Calls Tryz.prog 124 #[.slice (some ⟨g, 0, none⟩) n c] w fun e w' => (e = .returned (.slice (some ⟨g, 0, none⟩) (cmk l n).length c) ∧ OwnS w' B g (cmk l n).length c (cmk l n)) ∧ Below B w w' := by
  have hl : l.length = n := h.len
  obtain ⟨hsh, hcap, hBg⟩ := own_sh h
  have same : (∀ j, 1 ≤ j → j < n → es l j ≠ es l (j - 1)) → cmk l n = l := fun q => by rw [cmk_take (by omega) q, ← hl, List.take_length]
  by_cases h2 : n < 2
  · have HS : Hid (cmk l n = l ∧ l.length = n) := ⟨same (fun j h1 h2 => by omega), hl⟩
    have HO : Hid (OwnS w B g n c l) := h
    have hi : (n : Int) < 2 := by omega
    clear h hl same
    go_enter Tryz.func124, Tryz.ntmps124
    go_wp2
    go_ret
    rw [HS.out.1, HS.out.2]
    exact ⟨⟨rfl, HO.out⟩, Below.refl _ _⟩
  · have hi : ¬ (n : Int) < 2 := by omega
    go_enter Tryz.func124, Tryz.ntmps124
    go_wp2
    go_loopw [3] (fun q wr => ∃ k : Nat, 1 ≤ k ∧ k ≤ n ∧ q = .int .i64 (k : Int) ∧ Hid ((∀ j, 1 ≤ j → j < k → es l j ≠ es l (j - 1)) ∧ OwnS wr B g n c l ∧ Below B w wr)) (fun q _ => n - (intOf q).toNat)
    case atStart => exact ⟨1, Nat.le_refl _, by omega, rfl, ⟨fun j h1 h2 => by omega, h, Below.refl _ _⟩⟩
    case round =>
      clear h
      obtain ⟨k, hk1, hkn, rfl, HH⟩ := hrel
      by_cases hlt : k < n
      · have hi2 : (k : Int) < n := by omega
        have hkw : IntKind.i64.wrap ((k : Int) - 1) = ((k - 1 : Nat) : Int) := by rw [IntKind.wrap_i64]; omega
        have OS := HH.out.2.1
        obtain ⟨e0, e1, e2⟩ := Og.OwnS.cells OS k hlt
        obtain ⟨f0, f1, f2⟩ := Og.OwnS.cells OS (k - 1) (by omega)
        by_cases hd : es l k = es l (k - 1)
        · have hv : ∀ W, (binOp .eql 125 (sl (es l k)) (sl (es l (k - 1)))).run Tryz.prog W = .ok (.bool true) W := fun W => by rw [eqlS, decide_eq_true hd]
          have HD : Hid (es l k = es l (k - 1)) := hd
          clear hd OS
          go_wp2_with fail
          go_region
          go_wp2
          have H0 : Hid (CI l (k + 1) k l ∧ OwnS wr.drew B g n c l ∧ Below B w wr.drew) := ⟨CI.start hk1 (by omega) HH.out.1 HD.out, Og.own_below HH.out.2.1 (Below.refl _ _).drew, HH.out.2.2.drew⟩
          clear e0 e1 e2 f0 f1 f2 HH HD hv hkw
          go_loopw [3, 5] (fun q p wr => ∃ (kk k2 : Nat) (lt : List S3), 1 ≤ k2 ∧ k + k2 ≤ n ∧ q = .int .i64 (kk : Int) ∧ p = .int .i64 (k2 : Int) ∧ Hid (CI l (k + k2) kk lt ∧ OwnS wr B g n c lt ∧ Below B w wr)) (fun _ p _ => n - (k + (intOf p).toNat))
          case atStart => exact ⟨k, 1, l, Nat.le_refl _, by omega, rfl, rfl, H0⟩
          case round =>
            clear H0
            obtain ⟨kk, k2, lt, h21, h2n, rfl, rfl, HI⟩ := hrel
            have OS := HI.out.2.1
            have hkk := HI.out.1.below
            have hk0 := HI.out.1.one
            by_cases hl2 : k + k2 < n
            · have hi3 : (k2 : Int) < ((n - k : Nat) : Int) := by omega
              have hkw2 : IntKind.i64.wrap ((k2 : Int) - 1) = ((k2 - 1 : Nat) : Int) := by rw [IntKind.wrap_i64]; omega
              obtain ⟨e0, e1, e2⟩ := Og.OwnS.cells OS (k + k2) hl2
              obtain ⟨f0, f1, f2⟩ := Og.OwnS.cells OS (k + k2 - 1) (by omega)
              rw [HI.out.1.high (k + k2) (by omega), Nat.add_mul] at e0 e1 e2
              rw [HI.out.1.high (k + k2 - 1) (by omega), show (k + k2 - 1) * 3 = k * 3 + (k2 - 1) * 3 by omega] at f0 f1 f2
              by_cases hd : es l (k + k2) = es l (k + k2 - 1)
              · have hv : ∀ W, (binOp .neq 125 (sl (es l (k + k2))) (sl (es l (k + k2 - 1)))).run Tryz.prog W = .ok (.bool false) W := fun W => by rw [neqS, decide_eq_true hd]; rfl
                have H2 : Hid (CI l (k + (k2 + 1)) kk lt) := HI.out.1.skip hd
                clear hd OS
                go_wp2_with fail
                go_region
                go_wp2
                go_roundw
                case rel => exact ⟨kk, k2 + 1, lt, by omega, by omega, rfl, by go_num, ⟨H2.out, Og.own_below HI.out.2.1 (Below.refl _ _).drew, HI.out.2.2.drew⟩⟩
                case measure => simp [intOf]; omega
              · have hv : ∀ W, (binOp .neq 125 (sl (es l (k + k2))) (sl (es l (k + k2 - 1)))).run Tryz.prog W = .ok (.bool true) W := fun W => by rw [neqS, decide_eq_false hd]; rfl
                have H2 : Hid (CI l (k + (k2 + 1)) (kk + 1) (lt.set kk (es l (k + k2)))) := HI.out.1.keep (by omega) hd
                have OD : OwnS wr.drew B g n c lt := Og.own_below OS (Below.refl _ _).drew
                have H3 : Hid (OwnS (((wr.drew.setCell ⟨g, kk * 3, none⟩ (.int .i64 (es l (k + k2)).1)).setCell ⟨g, kk * 3 + 1, none⟩ (.int .i64 (es l (k + k2)).2.1)).setCell ⟨g, kk * 3 + 2, none⟩ (.int .i64 (es l (k + k2)).2.2)) B g n c (lt.set kk (es l (k + k2)))) := own_put3 OD kk _
                have H4 : Hid (Below B w (((wr.drew.setCell ⟨g, kk * 3, none⟩ (.int .i64 (es l (k + k2)).1)).setCell ⟨g, kk * 3 + 1, none⟩ (.int .i64 (es l (k + k2)).2.1)).setCell ⟨g, kk * 3 + 2, none⟩ (.int .i64 (es l (k + k2)).2.2))) := below_put3 HI.out.2.2.drew hBg _ _ _ _
                have hc3 := SHas.cells OS.has kk (by omega)
                rw [Nat.zero_add] at hc3
                obtain ⟨⟨d0, r0⟩, ⟨d1, r1⟩, ⟨d2, r2⟩⟩ := hc3
                have hkn3 : (kk : Int) < (n : Int) := by omega
                clear hd OS OD
                go_wp2_with fail
                go_region
                go_wp2
                go_roundw
                case rel => exact ⟨kk + 1, k2 + 1, _, by omega, by omega, by go_num, by go_num, ⟨H2.out, H3.out, H4.out⟩⟩
                case measure => simp [intOf]; omega
            · have hi3 : ¬ (k2 : Int) < ((n - k : Nat) : Int) := by omega
              have hkn2 : k + k2 = n := by omega
              have hcl := fun ty => run_clear3 OS (show kk < n by omega) ty (c - kk)
              have HE : Hid ((cmk l n).length = kk ∧ OwnS (wr.setCells g (kk * 3) (Builtin.zeroCells #[.int .i64 0, .int .i64 0, .int .i64 0] (n - kk)).toList) B g kk c (cmk l n) ∧ Below B w (wr.setCells g (kk * 3) (Builtin.zeroCells #[.int .i64 0, .int .i64 0, .int .i64 0] (n - kk)).toList)) := by
                have hI := HI.out.1
                rw [hkn2] at hI
                refine ⟨hI.fin (by omega), ?_, below_sets HI.out.2.2 hBg _ _⟩
                rw [← hI.done]
                exact own_cut OS (by omega) _
              have hkk1 : kk ≤ n := by omega
              have hkk2 : kk ≤ c := by omega
              clear OS HI hi3 hkn2
              go_wp2
              go_ret
              rw [HE.out.1]
              exact ⟨⟨rfl, HE.out.2.1⟩, HE.out.2.2⟩
        · have hv : ∀ W, (binOp .eql 125 (sl (es l k)) (sl (es l (k - 1)))).run Tryz.prog W = .ok (.bool false) W := fun W => by rw [eqlS, decide_eq_false hd]
          have HD : Hid (es l k ≠ es l (k - 1)) := hd
          clear hd OS
          go_wp2_with fail
          go_region
          go_wp2
          go_roundw
          case rel =>
            refine ⟨k + 1, by omega, by omega, by go_num, ⟨fun j h1 h2 => ?_, Og.own_below HH.out.2.1 (Below.refl _ _).drew, HH.out.2.2.drew⟩⟩
            by_cases e : j = k
            · subst e; exact HD.out
            · exact HH.out.1 j h1 (by omega)
          case measure => simp [intOf]; omega
      · have hi2 : ¬ (k : Int) < n := by omega
        obtain rfl : k = n := by omega
        have HS : Hid (cmk l k = l ∧ l.length = k) := ⟨same HH.out.1, hl⟩
        clear hl same
        go_wp2
        go_ret
        rw [HS.out.1, HS.out.2]
        exact ⟨⟨rfl, HH.out.2.1⟩, HH.out.2.2⟩

end Go.Proofs.YtimakfokgcnklaaGreat.Mi
