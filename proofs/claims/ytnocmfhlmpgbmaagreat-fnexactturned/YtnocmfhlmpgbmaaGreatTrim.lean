/-
  The Go functions Trimmed of impl and of spec by one answer, at every list of up to 1048576 int64s and every f.
-/
import Derived.Test.YtnocmfhlmpgbmaaGreatSSort
import Derived.Test.YtnocmfhlmpgbmaaGreatMark
import Derived.Test.YtnocmfhlmpgbmaaGreatHull
namespace Go.Proofs.YtnocmfhlmpgbmaaGreat.Tr
open Go.ChangeShapes Go.WideShapes Go.ChangeAt Go.RowKit
open Ad (Tm)
open Ls (el Row)
open Hu (mnK mxK tmK HT)
open Ow (Own Has srt ints)
set_option linter.unusedVariables false

/-- Whether it can be trimmed; what is left. -/
def TT (zs : List Int) (n : Nat) (f : Int) : Bool := decide (n ≤ 16 ∧ 0 ≤ f ∧ 2 * f < n) && tmK zs n
def TL (zs : List Int) (n : Nat) (f : Int) : List Int := if TT zs n f = true then ((srt zs).drop f.toNat).take (n - 2 * f.toNat) else []

theorem tt_no {zs : List Int} {n : Nat} {f : Int} (h : ¬ (n ≤ 16 ∧ 0 ≤ f ∧ 2 * f < n)) : TT zs n f = false := by rw [TT, decide_eq_false h]; rfl
theorem tt_not {zs : List Int} {n : Nat} {f : Int} (h : tmK zs n = false) : TT zs n f = false := by rw [TT, h, Bool.and_false]
theorem tt_yes {zs : List Int} {n F : Nat} (h1 : n ≤ 16) (h2 : 2 * F < n) (h : tmK zs n = true) : TT zs n F = true := by rw [TT, h, decide_eq_true (by omega)]; rfl
theorem tl_no {zs : List Int} {n : Nat} {f : Int} (h : TT zs n f = false) : TL zs n f = [] := by rw [TL, h]; rfl
theorem tl_yes {zs : List Int} {n F : Nat} (h : TT zs n F = true) : TL zs n F = ((srt zs).drop F).take (n - 2 * F) := by rw [TL, if_pos h]; simp
theorem tl_len {zs : List Int} {n F : Nat} (hz : zs.length = n) (h : TT zs n F = true) : (TL zs n F).length = n - 2 * F := by
  rw [tl_yes h, List.length_take, List.length_drop, Ow.srt_len]; omega

/-- How a call of Trimmed ends. -/
def TR (w : World) (zs : List Int) (n : Nat) (f : Int) (e : Ending) (w' : World) : Prop :=
  (∃ g off c, e = .returned (.tuple #[.slice (some ⟨g, off, none⟩) (TL zs n f).length c, .bool (TT zs n f)]) ∧ Has w' w.heap.size g off (TL zs n f).length (TL zs n f)) ∧ Below w.heap.size w w'

theorem tr_no {w w2 : World} {zs : List Int} {n g : Nat} {f : Int} (h : TT zs n f = false) (hb : Below w.heap.size w w2) (hg : g = w2.heap.size) :
    TR w zs n f (.returned (.tuple #[.slice (some ⟨g, 0, none⟩) 0 0, .bool false])) (w2.alloc (.cells #[] 2)) := by
  subst hg
  refine ⟨⟨w2.heap.size, 0, 0, by rw [tl_no h, h]; rfl, ?_⟩, hb.alloc hb.size _⟩
  rw [tl_no h]
  exact ⟨rfl, hb.size, by simp, fun k hk => by simp at hk, fun k hk => by simp at hk⟩

theorem tr_yes {w w2 : World} {zs : List Int} {n F g off c l : Nat} {l' : Nat} (hz : zs.length = n) (h : TT zs n F = true) (hb : Below w.heap.size w w2) (hl : l = n - 2 * F) (hH : Has w2 w.heap.size g off l (((srt zs).drop F).take (n - 2 * F))) (hl' : l' = l) :
    TR w zs n F (.returned (.tuple #[.slice (some ⟨g, off, none⟩) l' c, .bool true])) w2 := by
  subst hl' hl
  refine ⟨⟨g, off, c, by rw [tl_len hz h, h], ?_⟩, hb⟩
  rw [tl_len hz h, tl_yes h]
  exact hH

set_option maxHeartbeats 1000000 in
theorem i_no (a : Option Addr) (n cap : Nat) (f : Int) (zs : List Int) (w : World) (h : ¬ (n ≤ 16 ∧ 0 ≤ f ∧ 2 * f < n)) (hn : n ≤ 1048576) :
    Calls Tryz.prog 92 #[.slice a n cap, .int .i64 f] w (TR w zs n f) := by
  have hT := tt_no (zs := zs) h
  by_cases h1 : f < 0
  · go_enter Tryz.func92, Tryz.ntmps92
    go_wp2
    all_goals
      go_ret2
      exact tr_no hT (Below.refl _ _) rfl
  · by_cases h2 : ((n : Int) + 1) / 2 ≤ f
    · go_enter Tryz.func92, Tryz.ntmps92
      go_wp2
      all_goals
        go_ret2
        exact tr_no hT (Below.refl _ _) rfl
    · have h3 : (16 : Int) < n := by
        omega
      go_enter Tryz.func92, Tryz.ntmps92
      go_wp2
      all_goals
        go_ret2
        exact tr_no hT (Below.refl _ _) rfl

set_option maxHeartbeats 1000000 in
theorem i_not (a : Option Addr) (n cap F : Nat) (zs : List Int) (w : World) (hr : Row w w.heap.size a n zs) (h1 : n ≤ 16) (h2 : 2 * F < n) (ht : tmK zs n = false) :
    Calls Tryz.prog 92 #[.slice a n cap, .int .i64 F] w (TR w zs n F) := by
  have hT := tt_not (f := F) ht
  have q1 : ¬ (F : Int) < 0 := by omega
  have q2 : ¬ ((n : Int) + 1) / 2 ≤ F := by omega
  have q3 : ¬ (16 : Int) < n := by omega
  have key := Hu.i_Hull a n cap zs w hr (by omega)
  rw [Hu.ht_n (by omega), ht] at key
  go_enter Tryz.func92, Tryz.ntmps92
  go_wp2_with (go_at_call 102; refine key.mono ?_; rintro e w2 ⟨rfl, hb2⟩)
  go_ret2
  exact tr_no hT (hb2.alloc hb2.size _) (by simp)

set_option maxHeartbeats 1000000 in
theorem i_yes (b off n cap F : Nat) (zs : List Int) (w : World) (hz : zs.length = n) (hb : b < w.heap.size) (hc : ∀ k, k < n → w.cell? ⟨b, off + k, none⟩ = some (.int .i64 (el zs k))) (h1 : n ≤ 16) (h2 : 2 * F < n) (ht : tmK zs n = true) :
    Calls Tryz.prog 92 #[.slice (some ⟨b, off, none⟩) n cap, .int .i64 F] w (TR w zs n F) := by
  have hT := tt_yes h1 h2 ht
  have q1 : ¬ (F : Int) < 0 := by omega
  have q2 : ¬ ((n : Int) + 1) / 2 ≤ F := by omega
  have q3 : ¬ (16 : Int) < n := by omega
  have key := Hu.i_Hull (some ⟨b, off, none⟩) n cap zs w ⟨hz, .inr ⟨b, off, rfl, hb, hc⟩⟩ (by omega)
  rw [Hu.ht_n (by omega), ht] at key
  have HC : Hid (∀ k, k < n → w.cell? ⟨b, off + k, none⟩ = some (.int .i64 (el zs k))) := hc
  clear hc
  have e1 : (n : Int) - (F : Int) = ((n - F : Nat) : Int) := by omega
  have e2 : (F : Int) ≤ ((n - F : Nat) : Int) := by omega
  have e3 : F ≤ n - F := by omega
  go_enter Tryz.func92, Tryz.ntmps92
  go_wp2_with (go_at_call 102; refine key.mono ?_; rintro e w2 ⟨rfl, hb2⟩)
  have hB := hb2.alloc hb2.size (.cells #[.int .i64 (Sp.pk true (mnK zs n)), .int .i64 (Sp.pk true (mxK zs n))] 41)
  refine (Ow.inOrder b off n cap zs _ hz (fun k hk => by rw [hB.cell (p := ⟨b, off + k, none⟩) hb]; exact HC.out k hk) (by omega) (.inl (by have := hB.size; omega))).mono ?_
  rintro e w3 ⟨⟨g, c, rfl, ho⟩, hb3⟩
  have hd := ho.data
  have s3 := hB.size
  have hcF : ¬ c = F := by omega
  have hcn : ((n - F : Nat) : Int) ≤ c := by omega
  have hcn' : n - F ≤ c := by omega
  have hp := (ho.part F (n - 2 * F) (by omega)).mono s3
  clear ho hd
  go_wp2_with fail
  go_ret2
  exact tr_yes hz hT (hB.trans (hb3.mono s3)) rfl hp (by omega)

set_option maxHeartbeats 1000000 in
theorem s_no (a : Option Addr) (n cap : Nat) (f : Int) (zs : List Int) (w : World) (h : ¬ (n ≤ 16 ∧ 0 ≤ f ∧ 2 * f < n)) (hn : n ≤ 1048576) :
    Calls Tryz.prog 94 #[.slice a n cap, .int .i64 f] w (TR w zs n f) := by
  have hT := tt_no (zs := zs) h
  by_cases h1 : (16 : Int) < n
  · clear h
    go_enter Tryz.func94, Tryz.ntmps94
    go_wp2
    all_goals
      go_ret2
      exact tr_no hT (Below.refl _ _) rfl
  · by_cases h2 : 0 ≤ f ∧ f ≤ 16
    · have h3 : (n : Int) ≤ 2 * f := by omega
      have hL : Sp.LK 0 16 f = false := by unfold Sp.LK; rw [decide_eq_true h2.1, decide_eq_true h2.2]; rfl
      obtain ⟨F, rfl⟩ : ∃ F : Nat, f = F := ⟨f.toNat, by omega⟩
      have key := Sp.s_l1In 0 16 F w
      rw [hL] at key
      have hF : (F : Int) ≤ 16 := h2.2
      clear h h2 hL
      go_enter Tryz.func94, Tryz.ntmps94
      go_wp2_with (go_at_call 43; refine key.mono ?_; rintro e w ⟨rfl, rfl⟩)
      all_goals
        go_ret2
        exact tr_no hT (Below.refl _ _) rfl
    · have hL : Sp.LK 0 16 f = true := by unfold Sp.LK; by_cases q : 0 ≤ f <;> by_cases q2 : f ≤ 16 <;> simp [q, q2] <;> omega
      have key := Sp.s_l1In 0 16 f w
      rw [hL] at key
      clear h h2 hL
      go_enter Tryz.func94, Tryz.ntmps94
      go_wp2_with (go_at_call 43; refine key.mono ?_; rintro e w ⟨rfl, rfl⟩)
      all_goals
        go_ret2
        exact tr_no hT (Below.refl _ _) rfl

set_option maxRecDepth 100000 in
set_option maxHeartbeats 4000000 in
theorem s_in (b off n cap F : Nat) (zs : List Int) (w : World) (hz : zs.length = n) (hb : b < w.heap.size) (hc : ∀ k, k < n → w.cell? ⟨b, off + k, none⟩ = some (.int .i64 (el zs k))) (h1 : n ≤ 16) (h2 : 2 * F < n) :
    Calls Tryz.prog 94 #[.slice (some ⟨b, off, none⟩) n cap, .int .i64 F] w (TR w zs n F) := by
  obtain ⟨i0, hi, hz0, hz1, hz2⟩ := info_parts Ls.info
  have q1 : ¬ (16 : Int) < n := by omega
  have hL : Sp.LK 0 16 F = false := by unfold Sp.LK; rw [decide_eq_true (by omega), decide_eq_true (by omega)]; rfl
  have key := Sp.s_l1In 0 16 F w
  rw [hL] at key
  have q3 : ¬ (n : Int) ≤ 2 * (F : Int) := by omega
  have q4 : (F : Int) ≤ 16 := by omega
  have HC : Hid (∀ k, k < n → w.cell? ⟨b, off + k, none⟩ = some (.int .i64 (el zs k))) := hc
  clear hc hL
  have e1 : (n : Int) - (F : Int) = ((n - F : Nat) : Int) := by omega
  have e2 : (F : Int) ≤ ((n - F : Nat) : Int) := by omega
  have e3 : F ≤ n - F := by omega
  go_enter Tryz.func94, Tryz.ntmps94
  go_wp2_with (go_at_call 43; refine key.mono ?_; rintro e w ⟨rfl, rfl⟩)
  go_loop [7] (fun i => ∃ k : Nat, k ≤ n ∧ i = .int .i64 k ∧ tmK zs k = true) (fun i => n - (intOf i).toNat)
  case atStart => exact ⟨0, Nat.zero_le _, rfl, rfl⟩
  case round =>
    obtain ⟨k, hk, rfl, ht⟩ := hrel
    by_cases hlt : k < n
    · have hi' : (k : Int) < n := by omega
      have hc1 := HC.out k hlt
      by_cases hT : Tm (el zs k)
      · have hd : decide (Tm (el zs k)) = true := decide_eq_true hT
        have HT' : Hid (tmK zs (k + 1) = true) := by show (tmK zs k && decide (Tm (el zs k))) = true; rw [ht, hd]; rfl
        have ky := Ad.so (el zs k) w
        rw [hd] at ky
        clear hT
        go_wp2_with (go_at_call 46; refine ky.mono ?_; rintro e w ⟨rfl, rfl⟩)
        go_round
        case rel => exact ⟨k + 1, by omega, by go_num, HT'.out⟩
        case measure => simp [intOf]; omega
      · have hd : decide (Tm (el zs k)) = false := decide_eq_false hT
        have HF : Hid (TT zs n F = false) := tt_not (Hu.tm_no (k := k) (by show (tmK zs k && decide (Tm (el zs k))) = false; rw [ht, hd]; rfl) n hlt)
        have ky := Ad.so (el zs k) w
        rw [hd] at ky
        clear hT
        go_wp2_with (go_at_call 46; refine ky.mono ?_; rintro e w ⟨rfl, rfl⟩)
        go_ret2
        exact tr_no HF.out (Below.refl _ _) rfl
    · have hi' : ¬ (k : Int) < n := by omega
      have e : k = n := by omega
      subst e
      have hT := tt_yes h1 h2 ht
      have ky := Ow.s_Sorted b off k cap zs w hz HC.out (by omega) (.inl hb)
      go_wp2_with fail
      refine ky.mono ?_
      rintro e w3 ⟨⟨g, c, rfl, ho⟩, hb3⟩
      have hd := ho.data
      have hcF : ¬ c = F := by omega
      have hcn : ((k - F : Nat) : Int) ≤ c := by omega
      have hcn' : k - F ≤ c := by omega
      have hp := ho.part F (k - 2 * F) (by omega)
      have hgl := ho.lt
      have s3 := hb3.size
      have HN : Hid (∀ (ob : Obj), ∀ j u, (ints (((srt zs).drop F).take (k - 2 * F)))[j]? = some u → (w3.alloc ob).cell? ((⟨g, F, none⟩ : Addr).add j) = some u) := fun ob => Ow.news (n := k - 2 * F) hp.1 (fun j hj => by rw [World.cell?_alloc_lt _ _ _ (by exact hgl)]; exact hp.2.2.2.1 j hj)
      have hpl := hp.1
      clear ho hd hp ky
      go_wp2_with (at_builtin; refine wpList_append_own _ rfl (.tmp 40) (.tmp 46) 26 rfl w.heap.size 2 i0 (.int .i64 0) 1 8 Tryz.underlying26 hi hz0 hz1 hz2 rfl (by decide) _ _ _ rfl (World.ownsRow_made w3 #[] 0 s3 (by unfold maxLen; omega) rfl) ⟨g, F, none⟩ _ _ (ints (((srt zs).drop F).take (k - 2 * F))) rfl (by rw [Ow.ints_len]; omega) (HN.out _) (Ow.one _) (by unfold maxLen; omega) (by omega) (by simp; omega) ?_; intro v1 w4 hx1 hg1 hn1)
      rw [Nat.zero_add, List.nil_append] at hx1
      obtain ⟨g4, c4, rfl, ho4⟩ := Ow.own_of hx1 rfl (Ow.no_nilS hn1 rfl)
      have hB4 : Below w.heap.size w w4 := (hb3.alloc s3 _).grown hg1 (by simp; omega) (by intro j hj; have e : w3.heap.size = j := Option.some.inj hj; omega)
      have hH := ho4.has
      clear hx1 hg1 hn1 ho4
      go_wp2_with fail
      go_ret2
      exact tr_yes hz hT hB4 (by omega) hH rfl

theorem i_Trimmed (b off n cap : Nat) (f : Int) (zs : List Int) (w : World) (hz : zs.length = n) (hb : b < w.heap.size) (hc : ∀ k, k < n → w.cell? ⟨b, off + k, none⟩ = some (.int .i64 (el zs k))) (hn : n ≤ 1048576) :
    Calls Tryz.prog 92 #[.slice (some ⟨b, off, none⟩) n cap, .int .i64 f] w (TR w zs n f) := by
  by_cases h : n ≤ 16 ∧ 0 ≤ f ∧ 2 * f < n
  · obtain ⟨F, rfl⟩ : ∃ F : Nat, f = F := ⟨f.toNat, by omega⟩
    cases ht : tmK zs n with
    | true => exact i_yes b off n cap F zs w hz hb hc h.1 (by omega) ht
    | false => exact i_not _ n cap F zs w ⟨hz, .inr ⟨b, off, rfl, hb, hc⟩⟩ h.1 (by omega) ht
  · exact i_no _ n cap f zs w h hn

theorem s_Trimmed (b off n cap : Nat) (f : Int) (zs : List Int) (w : World) (hz : zs.length = n) (hb : b < w.heap.size) (hc : ∀ k, k < n → w.cell? ⟨b, off + k, none⟩ = some (.int .i64 (el zs k))) (hn : n ≤ 1048576) :
    Calls Tryz.prog 94 #[.slice (some ⟨b, off, none⟩) n cap, .int .i64 f] w (TR w zs n f) := by
  by_cases h : n ≤ 16 ∧ 0 ≤ f ∧ 2 * f < n
  · obtain ⟨F, rfl⟩ : ∃ F : Nat, f = F := ⟨f.toNat, by omega⟩
    exact s_in b off n cap F zs w hz hb hc h.1 (by omega)
  · exact s_no _ n cap f zs w h hn

end Go.Proofs.YtnocmfhlmpgbmaaGreat.Tr
