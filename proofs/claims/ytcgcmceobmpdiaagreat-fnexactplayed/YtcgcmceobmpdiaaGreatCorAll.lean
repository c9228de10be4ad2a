/-
  The library's contract of slices.Sort at []int64 of this program. · impl.inOrder and impl.Sorted: the sorted list, in new memory. · The Go function spec.Sorted: a list into which one after the other is put at its place: the sorted list, in new memory. · The Go function spec.Sorted by its walk: the sorted list, in new memory. · The Go functions Trimmed of impl and of spec by one answer, at every list of up to 1048576 int64s and every f. · The Go functions MiddleOf of impl and of spec by one answer, at every list of up to 1048576 int64s and every f. · impl.CorrectionOf and spec.CorrectionOf by one answer.
-/
import Derived.Test.YtcgcmceobmpdiaaGreatRows
import Derived.Shelf.SortM.Plain
import Derived.Test.YtcgcmceobmpdiaaGreatBase
import Derived.Sort.OwnSortedInts
import Derived.Deep.RegionLaw
import Derived.Test.YtcgcmceobmpdiaaGreatHullSp
import Derived.Test.YtcgcmceobmpdiaaGreatG2
import Derived.Test.YtcgcmceobmpdiaaGreatG5
import Derived.Deep.RegionHeld3
import Derived.Test.YtcgcmceobmpdiaaGreatTk
namespace Go.Proofs.YtcgcmceobmpdiaaGreat.Ow
open Go.Shelf Go.Sort
set_option linter.unusedVariables false

def mSort_ren : Go.Shelf.Ren := ⟨fun | 5 => 92 | 8 => 95 | 7 => 94 | 19 => 106 | 20 => 107 | 10 => 97 | 11 => 98 | 12 => 99 | 13 => 100 | 14 => 101 | 15 => 102 | 16 => 103 | 17 => 104 | 18 => 105 | 30 => 108 | 31 => 109 | 32 => 110 | 33 => 111 | 34 => 112 | 35 => 113 | 40 => 114 | n => n, fun | 23 => 24 | 25 => 2 | 3 => 3 | 32 => 93 | 22 => 24 | 0 => 0 | 44 => 113 | 46 => 115 | 4 => 4 | 36 => 105 | 35 => 104 | 41 => 110 | 5 => 5 | 9 => 9 | 53 => 116 | 57 => 120 | 63 => 122 | 64 => 123 | n => n, fun | n => n⟩

theorem mSort : Go.Proofs.SlLaysM.n5 Tryz.prog mSort_ren := {
    mixed := by kernel_rfl,
    f5 := ⟨Tryz.f92.name, by decide, Tryz.func92.trans (congrArg some (by kernel_rfl))⟩,
    f7 := ⟨Tryz.f94.name, by decide, Tryz.func94.trans (congrArg some (by kernel_rfl))⟩,
    f8 := Tryz.func95.trans (congrArg some (by kernel_rfl)),
    f10 := ⟨Tryz.f97.name, by decide, Tryz.func97.trans (congrArg some (by kernel_rfl))⟩,
    f11 := ⟨Tryz.f98.name, by decide, Tryz.func98.trans (congrArg some (by kernel_rfl))⟩,
    f12 := ⟨Tryz.f99.name, by decide, Tryz.func99.trans (congrArg some (by kernel_rfl))⟩,
    f13 := ⟨Tryz.f100.name, by decide, Tryz.func100.trans (congrArg some (by kernel_rfl))⟩,
    f14 := ⟨Tryz.f101.name, by decide, Tryz.func101.trans (congrArg some (by kernel_rfl))⟩,
    f15 := ⟨Tryz.f102.name, by decide, Tryz.func102.trans (congrArg some (by kernel_rfl))⟩,
    f16 := ⟨Tryz.f103.name, by decide, Tryz.func103.trans (congrArg some (by kernel_rfl))⟩,
    f17 := ⟨Tryz.f104.name, by decide, Tryz.func104.trans (congrArg some (by kernel_rfl))⟩,
    f18 := ⟨Tryz.f105.name, by decide, Tryz.func105.trans (congrArg some (by kernel_rfl))⟩,
    f19 := Tryz.func106.trans (congrArg some (by kernel_rfl)),
    f20 := Tryz.func107.trans (congrArg some (by kernel_rfl)),
    f30 := ⟨Tryz.f108.name, by decide, Tryz.func108.trans (congrArg some (by kernel_rfl))⟩,
    f31 := Tryz.func109.trans (congrArg some (by kernel_rfl)),
    f32 := Tryz.func110.trans (congrArg some (by kernel_rfl)),
    f33 := ⟨Tryz.f111.name, by decide, Tryz.func111.trans (congrArg some (by kernel_rfl))⟩,
    f34 := ⟨Tryz.f112.name, by decide, Tryz.func112.trans (congrArg some (by kernel_rfl))⟩,
    f35 := ⟨Tryz.f113.name, by decide, Tryz.func113.trans (congrArg some (by kernel_rfl))⟩,
    f40 := ⟨Tryz.f114.name, by decide, Tryz.func114.trans (congrArg some (by kernel_rfl))⟩,
    t0 := Tryz.underlying0,
    a0 := Tryz.isAgg0,
    z0 := Tryz.sizeOf0,
    v0 := Tryz.zeroValue0,
    t3 := Tryz.underlying3,
    a3 := Tryz.isAgg3,
    z3 := Tryz.sizeOf3,
    v3 := Tryz.zeroValue3,
    t4 := Tryz.underlying4,
    a4 := Tryz.isAgg4,
    z4 := Tryz.sizeOf4,
    v4 := Tryz.zeroValue4,
    t5 := Tryz.underlying5,
    a5 := Tryz.isAgg5,
    z5 := Tryz.sizeOf5,
    v5 := Tryz.zeroValue5,
    t9 := Tryz.underlying9,
    a9 := Tryz.isAgg9,
    z9 := Tryz.sizeOf9,
    v9 := Tryz.zeroValue9,
    t22 := Tryz.underlying24,
    a22 := Tryz.isAgg24,
    z22 := Tryz.sizeOf24,
    v22 := Tryz.zeroValue24,
    t23 := Tryz.underlying24,
    a23 := Tryz.isAgg24,
    z23 := Tryz.sizeOf24,
    v23 := Tryz.zeroValue24,
    t25 := Tryz.underlying2,
    a25 := Tryz.isAgg2,
    z25 := Tryz.sizeOf2,
    v25 := Tryz.zeroValue2,
    t32 := Tryz.underlying93,
    a32 := Tryz.isAgg93,
    z32 := Tryz.sizeOf93,
    v32 := Tryz.zeroValue93,
    t35 := Tryz.underlying104,
    a35 := Tryz.isAgg104,
    z35 := Tryz.sizeOf104,
    v35 := Tryz.zeroValue104,
    t36 := Tryz.underlying105,
    a36 := Tryz.isAgg105,
    z36 := Tryz.sizeOf105,
    v36 := Tryz.zeroValue105,
    t41 := Tryz.underlying110,
    a41 := Tryz.isAgg110,
    z41 := Tryz.sizeOf110,
    v41 := Tryz.zeroValue110,
    t44 := Tryz.underlying113,
    a44 := Tryz.isAgg113,
    z44 := Tryz.sizeOf113,
    v44 := Tryz.zeroValue113,
    t46 := Tryz.underlying115,
    a46 := Tryz.isAgg115,
    z46 := Tryz.sizeOf115,
    v46 := Tryz.zeroValue115,
    t53 := Tryz.underlying116,
    a53 := Tryz.isAgg116,
    z53 := Tryz.sizeOf116,
    v53 := Tryz.zeroValue116,
    t57 := Tryz.underlying120,
    a57 := Tryz.isAgg120,
    z57 := Tryz.sizeOf120,
    v57 := Tryz.zeroValue120,
    t63 := Tryz.underlying122,
    a63 := Tryz.isAgg122,
    z63 := Tryz.sizeOf122,
    v63 := Tryz.zeroValue122,
    t64 := Tryz.underlying123,
    a64 := Tryz.isAgg123,
    z64 := Tryz.sizeOf123,
    v64 := Tryz.zeroValue123 }

/-- The sorted list. -/
def srt (zs : List Int) : List Int := zs.mergeSort fun x y => decide (x ≤ y)

theorem slices_Sort (blk off cap : Nat) (zs : List Int) (w : World) (hH : Holds (Value.int .i64) w blk off zs.toArray) (hblk : blk < w.heap.size) (hsz : zs.length < 4611686018427387904) :
    Calls Tryz.prog 92 #[.slice (some ⟨blk, off, none⟩) zs.length cap] w fun e w' =>
      e = .returned (.tuple #[]) ∧ ∃ n os, w' = grow (putRow (Value.int .i64) (Sort.ahead w n) blk off (srt zs).toArray) os :=
  AnyM.slices_Sort_int mSort blk off cap zs w hH hblk hsz

end Go.Proofs.YtcgcmceobmpdiaaGreat.Ow

namespace Go.Proofs.YtcgcmceobmpdiaaGreat.Ow
open Go.ChangeShapes Go.WideShapes Go.ChangeAt Go.RowKit Go.Sort
open Ls (el Row)
set_option linter.unusedVariables false

theorem srt_len (zs : List Int) : (srt zs).length = zs.length := List.length_mergeSort zs

set_option maxHeartbeats 1000000 in
theorem inOrder (b off n cap : Nat) (zs : List Int) (w : World) (hz : zs.length = n) (hc : ∀ k, k < n → w.cell? ⟨b, off + k, none⟩ = some (.int .i64 (el zs k))) (hn : n ≤ 1048576) (hb : b < w.heap.size ∨ n = 0) :
    Calls Tryz.prog 85 #[.slice (some ⟨b, off, none⟩) n cap] w fun e w' => (∃ g c, e = .returned (.slice (some ⟨g, 0, none⟩) n c) ∧ Own w' w.heap.size g n c (srt zs)) ∧ Below w.heap.size w w' := by
  obtain ⟨i0, hi, hz0, hz1, hz2⟩ := info_parts Ls.info
  have hc' : ∀ o k, k < n → (w.alloc o).cell? ⟨b, off + k, none⟩ = some (.int .i64 (el zs k)) := fun o k hk => by
    rw [World.cell?_alloc_lt _ _ _ (by simp; omega)]; exact hc k hk
  have HN := fun o => news hz (hc' o)
  clear hc hc'
  go_enter Tryz.func85, Tryz.ntmps85
  go_wp2_with (at_builtin; refine wpList_append_own _ rfl _ _ 24 rfl w.heap.size 2 i0 (.int .i64 0) 1 8 Tryz.underlying24 hi hz0 hz1 hz2 rfl (by decide) _ _ _ rfl (World.ownsRow_made w #[] 0 (Nat.le_refl _) (by unfold maxLen; omega) rfl) ⟨b, off, none⟩ n cap (ints zs) rfl (by rw [ints_len]; omega) (HN _) (one _) (by unfold maxLen; omega) (by omega) (by simp) ?_; intro v1 w1 ho hg hnil)
  have hv : v1 ≠ .slice none 0 0 := fun e => by have := (hnil.1 e).1; cases this
  rw [Nat.zero_add, List.nil_append] at ho
  obtain ⟨g, c, rfl, ho2⟩ := own_of (zs := zs) ho rfl hv
  clear ho
  have hB : Below w.heap.size w w1 := ((Below.refl _ _).alloc (Nat.le_refl _) _).grown hg (by simp) (by intro k hk; have e : w.heap.size = k := Option.some.inj hk; omega)
  clear hg hnil hv HN
  obtain ⟨h1, h2, h3, h4, cur, hcur, h5, h6⟩ := ho2.data
  have hlt := ho2.lt
  clear ho2
  have hH : Holds (Value.int .i64) w1 g 0 zs.toArray := holds_of_blockI hcur (by rw [h1]; exact h6)
  have key := slices_Sort g 0 c zs w1 hH hlt (by omega)
  rw [hz] at key
  clear hH
  go_wp2_with (go_at_call 92; refine key.mono ?_; rintro e w2 ⟨rfl, nn, os, rfl⟩)
  go_ret
  have G := grownBy_sortedI (w := w1) (g := g) (n := nn) (os := os) (srt zs).toArray
  have R := ownsRow_sortedI (n := nn) (os := os) (base := w.heap.size) (ts := srt zs) (ss := zs) (srt_len zs) h2 hcur (by omega) h4 (by omega)
  rw [hz] at R
  exact ⟨⟨g, c, rfl, R⟩, hB.grown G (by have := hB.size; omega) (by intro k hk; cases hk; omega)⟩

end Go.Proofs.YtcgcmceobmpdiaaGreat.Ow

namespace Go.Proofs.YtcgcmceobmpdiaaGreat.Ow
open Go.ChangeShapes Go.WideShapes Go.ChangeAt Go.RowKit Go.Sort
open Ls (el Row)
set_option linter.unusedVariables false

/-- Where x goes: behind the last one of the first k that is not greater. -/
def pos (xs : List Int) (x : Int) : Nat → Nat
  | 0 => 0
  | k + 1 => if x < el xs k then pos xs x k else k + 1
def put (xs : List Int) (x : Int) : List Int := xs.take (pos xs x xs.length) ++ [x] ++ xs.drop (pos xs x xs.length)
/-- The first k, put one after the other. -/
def insK (zs : List Int) : Nat → List Int
  | 0 => []
  | k + 1 => put (insK zs k) (el zs k)

theorem pos_yes {xs : List Int} {x : Int} {k : Nat} (h : x < el xs k) : pos xs x (k + 1) = pos xs x k := by rw [pos, if_pos h]
theorem pos_no {xs : List Int} {x : Int} {k : Nat} (h : ¬ x < el xs k) : pos xs x (k + 1) = k + 1 := by rw [pos, if_neg h]
theorem pos_le (xs : List Int) (x : Int) : ∀ k, pos xs x k ≤ k
  | 0 => Nat.le_refl _
  | k + 1 => by
    have := pos_le xs x k
    by_cases h : x < el xs k
    · rw [pos_yes h]; omega
    · rw [pos_no h]; exact Nat.le_refl _
theorem pos_above (xs : List Int) (x : Int) : ∀ k j, pos xs x k ≤ j → j < k → x < el xs j
  | 0, j => by omega
  | k + 1, j => by
    intro h1 h2
    by_cases h : x < el xs k
    · rw [pos_yes h] at h1
      by_cases e : j = k
      · rw [e]; exact h
      · exact pos_above xs x k j h1 (by omega)
    · rw [pos_no h] at h1; omega
theorem pos_at (xs : List Int) (x : Int) : ∀ k, 0 < pos xs x k → el xs (pos xs x k - 1) ≤ x
  | 0 => by intro h; exact absurd h (by simp [pos])
  | k + 1 => by
    intro h0
    by_cases h : x < el xs k
    · rw [pos_yes h] at h0 ⊢; exact pos_at xs x k h0
    · rw [pos_no h]; simpa using h

theorem put_len (xs : List Int) (x : Int) : (put xs x).length = xs.length + 1 := by
  have := pos_le xs x xs.length
  simp [put]; omega
theorem put_perm (xs : List Int) (x : Int) : (put xs x).Perm (x :: xs) := by
  unfold put
  rw [List.append_assoc]
  have h := List.perm_middle (a := x) (l₁ := xs.take (pos xs x xs.length)) (l₂ := xs.drop (pos xs x xs.length))
  rw [List.take_append_drop] at h
  exact h
theorem el_get {xs : List Int} {k : Nat} (h : k < xs.length) : el xs k = xs[k] := by simp [el, List.getD, h]
theorem put_sorted {xs : List Int} {x : Int} (h : xs.Pairwise (· ≤ ·)) : (put xs x).Pairwise (· ≤ ·) := by
  have hle := pos_le xs x xs.length
  have h1 : ∀ a ∈ xs.take (pos xs x xs.length), a ≤ x := by
    intro a ha
    obtain ⟨j, hj, rfl⟩ := List.mem_iff_getElem.1 ha
    rw [List.getElem_take]
    rw [List.length_take] at hj
    have hp := pos_at xs x xs.length (by omega)
    rw [el_get (by omega)] at hp
    by_cases e : j = pos xs x xs.length - 1
    · subst e; exact hp
    · exact Int.le_trans (List.pairwise_iff_getElem.1 h j (pos xs x xs.length - 1) (by omega) (by omega) (by omega)) hp
  have h2 : ∀ a ∈ xs.drop (pos xs x xs.length), x ≤ a := by
    intro a ha
    obtain ⟨j, hj, rfl⟩ := List.mem_iff_getElem.1 ha
    rw [List.getElem_drop]
    rw [List.length_drop] at hj
    have := pos_above xs x xs.length (pos xs x xs.length + j) (by omega) (by omega)
    rw [el_get (by omega)] at this
    exact Int.le_of_lt this
  unfold put
  rw [List.append_assoc, List.pairwise_append]
  refine ⟨h.sublist (List.take_sublist _ _), ?_, ?_⟩
  · rw [List.singleton_append, List.pairwise_cons]
    exact ⟨h2, h.sublist (List.drop_sublist _ _)⟩
  · intro a ha b hb
    rw [List.singleton_append, List.mem_cons] at hb
    rcases hb with rfl | hb
    · exact h1 a ha
    · exact Int.le_trans (h1 a ha) (h2 b hb)

theorem insK_len (zs : List Int) : ∀ k, (insK zs k).length = k
  | 0 => rfl
  | k + 1 => by rw [insK, put_len, insK_len zs k]
theorem insK_sorted (zs : List Int) : ∀ k, (insK zs k).Pairwise (· ≤ ·)
  | 0 => List.Pairwise.nil
  | k + 1 => put_sorted (insK_sorted zs k)
theorem insK_perm (zs : List Int) : ∀ k, k ≤ zs.length → (insK zs k).Perm (zs.take k)
  | 0 => by intro _; simp [insK]
  | k + 1 => by
    intro h
    rw [insK]
    refine (put_perm _ _).trans ?_
    have e : zs.take (k + 1) = zs.take k ++ [el zs k] := by
      rw [el_get (by omega), List.take_append_getElem]
    rw [e]
    refine ((insK_perm zs k (by omega)).cons _).trans ?_
    exact (List.perm_append_comm (l₁ := zs.take k) (l₂ := [el zs k])).symm
theorem srt_sorted (zs : List Int) : (srt zs).Pairwise (· ≤ ·) := by
  have h := List.pairwise_mergeSort (le := fun x y : Int => decide (x ≤ y)) (by intro a b c; simp; omega) (by intro a b; simp; omega) zs
  exact h.imp (by intro a b h; simpa using h)
theorem srt_perm (zs : List Int) : (srt zs).Perm zs := List.mergeSort_perm zs _
theorem sorted_one {xs ys : List Int} (h1 : xs.Pairwise (· ≤ ·)) (h2 : ys.Pairwise (· ≤ ·)) (hp : xs.Perm ys) : xs = ys :=
  List.Perm.eq_of_pairwise (le := fun a b : Int => a ≤ b) (fun a b _ _ h k => Int.le_antisymm h k) h1 h2 hp
theorem insK_srt {zs : List Int} {n : Nat} (hz : zs.length = n) : insK zs n = srt zs := by
  refine sorted_one (insK_sorted zs n) (srt_sorted zs) ?_
  have h := insK_perm zs n (by omega)
  rw [List.take_of_length_le (by omega)] at h
  exact h.trans (srt_perm zs).symm

theorem insK_step {zs : List Int} {k p : Nat} (h : p = pos (insK zs k) (el zs k) k) : insK zs (k + 1) = (insK zs k).take p ++ [el zs k] ++ (insK zs k).drop p := by
  rw [insK, put, insK_len, h]

end Go.Proofs.YtcgcmceobmpdiaaGreat.Ow

namespace Go.Proofs.YtcgcmceobmpdiaaGreat.Ow
open Go.ChangeShapes Go.WideShapes Go.ChangeAt Go.RowKit Go.Sort
open Ls (el Row)
set_option linter.unusedVariables false

/-- append to a slice of the call's own, as one step of a region that draws its order. -/
theorem step_own {P : Program} {ops : Array Oper} {o : Oper} {a : Act} {w : World} {K : Act → World → Prop} {Q : Exit → Act → World → Prop} {E : Prop} (hgd : o.guard = none) (s x : Operand) (t : TypeId)
    (ho : o.op = .call { callee := .builtin .append, args := #[s, x], argTypes := #[t, t] })
    (base : Nat) (e : TypeId) (i : TypeInfo) (z : Value) (size bytes : Nat) (ht : P.underlying t = some (.slice e)) (hi : P.info? e = some i) (hz : i.zero = some z)
    (hsize : i.size = size) (hby : i.bytes = bytes) (hzs : z.cells.size = size) (hsz : 0 < size)
    (v : Value) (n : Nat) (xs : List Value) (hs : a.eval s = v) (hown : w.ownsRow base e size v n xs)
    (ad : Addr) (m c : Nat) (news : List Value) (hx : a.eval x = .slice (some ad) m c) (hl : news.length = m * size) (hnews : ∀ j u, news[j]? = some u → w.cell? (ad.add j) = some u) (h1 : ∀ u ∈ news, u.oneCell' = true)
    (h63 : n + m ≤ maxLen) (hbytes : (n + m) * bytes ≤ 140737488355328) (hbase : base ≤ w.heap.size)
    (h : ∀ v' w', w'.ownsRow base e size v' (n + m) (xs ++ news) → w.grownBy w' v.ownBlock → (v' = .slice none 0 0 ↔ v = .slice none 0 0 ∧ m = 0) → K (a.put o.dst v') w') :
    if Region.wanted o (yielded ops a.tmps) = true then Oper.wp P o a w K Q else E := by
  have hw : Region.wanted o (yielded ops a.tmps) = true := by simp [Region.wanted, hgd]
  rw [if_pos hw]
  exact wp_append_own w s x t ho base e i z size bytes ht hi hz hsize hby hzs hsz v n xs hs hown ad m c news hx hl hnews h1 h63 hbytes hbase h

theorem no_nilS {v v' : Value} {p : Prop} {a : Addr} {n c : Nat} (h : v' = .slice none 0 0 ↔ v = .slice none 0 0 ∧ p) (hv : v = .slice (some a) n c) : v' ≠ .slice none 0 0 := fun e => by
  have := (h.1 e).1
  rw [hv] at this
  cases this

theorem one_newS (w : World) (x : Int) (t : TypeId) (b : Nat) (hb : b = w.heap.size) : ∀ j u, (ints [x])[j]? = some u → (w.alloc (.cells #[.int .i64 x] t)).cell? ((⟨b, 0, none⟩ : Addr).add j) = some u := by
  intro j u hj
  subst hb
  match j, hj with
  | 0, hj =>
    rw [addr_add]
    simp [ints] at hj
    subst hj
    simp
  | j + 1, hj => simp [ints] at hj

theorem drop_el (xs : List Int) (m j : Nat) : el (xs.drop m) j = el xs (m + j) := by simp [el, List.getD]

/-- Behind the copy of what comes behind. -/
theorem after0 {w W w1 : World} {B g k c m l : Nat} {xs : List Int} {v1 : Value} (ho : Own W B g k c xs) (hB : Below B w W)
    (h : w1.ownsRow W.heap.size 2 1 v1 l (ints (xs.drop m))) (hg : (W.alloc (.cells #[] 2)).grownBy w1 (some W.heap.size)) (hn : v1 ≠ .slice none 0 0) (hBW : B ≤ W.heap.size) :
    (∃ g1 c1, v1 = .slice (some ⟨g1, 0, none⟩) l c1 ∧ Own w1 W.heap.size g1 l c1 (xs.drop m) ∧ g1 ≠ g) ∧ Own w1 B g k c xs ∧ Below W.heap.size W w1 ∧ Below B w w1 := by
  have hb1 : Below W.heap.size W w1 := ((Below.refl _ _).alloc (Nat.le_refl _) _).grown hg (by simp) (by intro j hj; cases hj; exact Nat.le_refl _)
  obtain ⟨g1, c1, e, ho1⟩ := own_of h rfl hn
  exact ⟨⟨g1, c1, e, ho1, by have := ho1.data.2.1; have := ho.lt; omega⟩, ho.later hb1 ho.lt, hb1, hB.trans (hb1.mono hBW)⟩

theorem after1 {w w1 w2 : World} {B R g g1 c1 m l : Nat} {xs ys : List Int} {x : Int} {v2 : Value} {o : Obj} (hB : Below B w w1) (hBs : B ≤ w1.heap.size) (hgB : B ≤ g) (hne : g1 ≠ g) (hr : Own w1 R g1 l c1 ys)
    (h : w2.ownsRow B 2 1 v2 (m + 1) (ints (xs.take m) ++ ints [x])) (hg : (w1.drew.alloc o).grownBy w2 (some g)) (hn : v2 ≠ .slice none 0 0) :
    (∃ g2 c2, v2 = .slice (some ⟨g2, 0, none⟩) (m + 1) c2 ∧ Own w2 B g2 (m + 1) c2 (xs.take m ++ [x])) ∧ Own w2 R g1 l c1 ys ∧ Below B w w2 ∧ B ≤ w2.heap.size := by
  obtain ⟨g2, c2, e, ho2⟩ := own_of (zs := xs.take m ++ [x]) h (by simp [ints]) hn
  have hr' : Own (w1.drew.alloc o) R g1 l c1 ys := World.ownsRow.alloc (w := w1.drew) hr o
  exact ⟨⟨g2, c2, e, ho2⟩, World.ownsRow.kept hr' hg (.inr (by simp [Value.ownBlock]; exact hne)), (hB.drew.alloc hBs _).grown hg (by simp; omega) (by intro j hj; cases hj; exact hgB), by have := hg.size; simp at this; omega⟩

theorem after2 {w w2 w3 : World} {B g2 m l k : Nat} {zs xs ys : List Int} {v3 : Value} (hB : Below B w w2) (hBs : B ≤ w2.heap.size) (hgB : B ≤ g2)
    (h : w3.ownsRow B 2 1 v3 (m + 1 + l) (ints xs ++ ints ys)) (hg : w2.grownBy w3 (some g2)) (hn : v3 ≠ .slice none 0 0) (hl : m + 1 + l = k + 1) (he : xs ++ ys = insK zs (k + 1)) :
    (∃ g3 c3, v3 = .slice (some ⟨g3, 0, none⟩) (k + 1) c3 ∧ Own w3 B g3 (k + 1) c3 (insK zs (k + 1))) ∧ Below B w w3 := by
  rw [hl] at h
  obtain ⟨g3, c3, e, ho3⟩ := own_of (zs := insK zs (k + 1)) h (by rw [← he]; simp [ints]) hn
  exact ⟨⟨g3, c3, e, ho3⟩, hB.grown hg hBs (by intro j hj; cases hj; exact hgB)⟩

theorem cut_at (g c m : Nat) : ∃ o, Hid ((if c = m then some ⟨g, 0, none⟩ else some ⟨g, m, none⟩ : Option Addr) = some ⟨g, o, none⟩) ∧ Hid (c ≠ m → o = m) := by
  by_cases h : c = m
  · exact ⟨0, by show _ = _; rw [if_pos h], fun h2 => absurd h h2⟩
  · exact ⟨m, by show _ = _; rw [if_neg h], fun _ => rfl⟩

set_option maxHeartbeats 4000000 in
theorem s_Sorted (b off n cap : Nat) (zs : List Int) (w : World) (hz : zs.length = n) (hc : ∀ k, k < n → w.cell? ⟨b, off + k, none⟩ = some (.int .i64 (el zs k))) (hn : n ≤ 1048576) (hbB : b < w.heap.size ∨ n = 0) :
    Calls Tryz.prog 80 #[.slice (some ⟨b, off, none⟩) n cap] w fun e w' => (∃ g c, e = .returned (.slice (some ⟨g, 0, none⟩) n c) ∧ Own w' w.heap.size g n c (srt zs)) ∧ Below w.heap.size w w' := by
  obtain ⟨i0, hi, hz0, hz1, hz2⟩ := info_parts Ls.info
  have HbB : Hid (b < w.heap.size ∨ n = 0) := hbB
  have HC0 : Hid (∀ k, k < n → w.cell? ⟨b, off + k, none⟩ = some (.int .i64 (el zs k))) := hc
  clear hbB hc
  go_enter Tryz.func80, Tryz.ntmps80
  go_wp2
  go_loopw [3, 4] (fun v i wr => ∃ k g c : Nat, k ≤ n ∧ i = .int .i64 k ∧ v = .slice (some ⟨g, 0, none⟩) k c ∧ Own wr w.heap.size g k c (insK zs k) ∧ Below w.heap.size w wr) (fun _ i _ => n - (intOf i).toNat)
  case atStart => exact ⟨0, _, _, Nat.zero_le _, rfl, rfl, World.ownsRow_made w #[] 0 (Nat.le_refl _) (by unfold maxLen; omega) rfl, (Below.refl _ _).alloc (Nat.le_refl _) _⟩
  case round =>
    obtain ⟨k, g, c, hk, rfl, rfl, ho, hB⟩ := hrel
    by_cases hlt : k < n
    · have hi' : (k : Int) < n := by omega
      obtain ⟨x, HX⟩ : ∃ x, Hid (x = el zs k) := ⟨_, rfl⟩
      obtain ⟨xs, HS⟩ : ∃ xs, Hid (xs = insK zs k) := ⟨_, rfl⟩
      have hb0 : b < w.heap.size := by have := HbB.out; omega
      have hc1 : wr.cell? ⟨b, off + k, none⟩ = some (.int .i64 x) := by rw [hB.cell (p := ⟨b, off + k, none⟩) (by simp; omega), HX.out]; exact HC0.out k hlt
      rw [← HS.out] at ho
      have hs1 := hB.size
      go_wp2
      go_loopw [5] (fun j wq => ∃ m : Nat, m ≤ k ∧ j = .int .i64 m ∧ pos xs x m = pos xs x k ∧ Own wq w.heap.size g k c xs ∧ wq.cell? ⟨b, off + k, none⟩ = some (.int .i64 x) ∧ Below w.heap.size w wq) (fun j _ => (intOf j).toNat)
      case atStart => exact ⟨k, Nat.le_refl _, rfl, rfl, ho, hc1, hB⟩
      case round =>
        obtain ⟨m, hm, rfl, hp, ho1, hc2, hB1⟩ := hrel
        by_cases h0 : m = 0
        · have hm0 : decide (0 < m) = false := by simp; omega
          have HM : Hid (m = pos xs x k) := by show m = _; rw [← hp, h0]; rfl
          clear h0 hp
          have hmk : (m : Int) ≤ k := by omega
          have hd1 := ho1.data
          have hkc : k ≤ c := hd1.2.2.1
          have hkc' : (k : Int) ≤ c := by omega
          have hkm : k ≤ maxLen := by have := hd1.2.2.2.1; omega
          have hmc : m ≤ c := by omega
          have hmc' : (m : Int) ≤ c := by omega
          have hs2 := hB1.size
          have hgl := ho1.lt
          by_cases hcm : m = c
          · subst hcm
            have HC : ∀ j, j < k - m → wr.cell? ⟨g, 0 + j, none⟩ = some (.int .i64 (el (xs.drop m) j)) := fun j hj => by
              omega
            have HN : Hid (∀ (q : Nat) (ob : Obj), ∀ j u, (ints (xs.drop m))[j]? = some u → ((wr.drewN q).alloc ob).cell? ((⟨g, 0, none⟩ : Addr).add j) = some u) := fun q ob => news (n := k - m) (by simp; omega) (fun j hj => by rw [World.cell?_alloc_lt _ _ _ (by exact hgl)]; exact HC j hj)
            clear HC
            go_wp2
            go_quiet (fail)
            go_wp2_with (at_builtin; refine wpList_append_own _ rfl (.tmp 32) (.tmp 35) 24 rfl wr.heap.size 2 i0 (.int .i64 0) 1 8 Tryz.underlying24 hi hz0 hz1 hz2 rfl (by decide) _ _ _ rfl (World.ownsRow_made (wr.drewN nq) #[] 0 (Nat.le_refl _) (by unfold maxLen; omega) rfl) ⟨g, 0, none⟩ _ _ (ints (xs.drop m)) rfl (by rw [ints_len, List.length_drop]; omega) (HN.out _ _) (one _) (by unfold maxLen; omega) (by omega) (by simp) ?_; intro v1 w1 hx1 hg1 hn1)
            rw [Nat.zero_add, List.nil_append] at hx1
            obtain ⟨⟨g1, c1, rfl, hr1, hne⟩, ho2, hb1, hB2⟩ := after0 (w := w) (W := wr.drewN nq) (m := m) ho1 (below_drewN hB1 nq) hx1 hg1 (no_nilS hn1 rfl) (by show _ ≤ wr.heap.size; omega)
            have hc3 : w1.cell? ⟨b, off + k, none⟩ = some (.int .i64 x) := by rw [hb1.cell (p := ⟨b, off + k, none⟩) (by show _ < wr.heap.size; simp; omega)]; exact hc2
            have hs3 : w.heap.size ≤ w1.heap.size := hB2.size
            have HR1 : Hid (Own w1 wr.heap.size g1 _ c1 (xs.drop m)) := hr1
            have HO2 : Hid (Own w1 w.heap.size g k _ xs) := ho2
            have hgB : w.heap.size ≤ g := hd1.2.1
            clear hx1 hg1 hn1 hr1 ho2 ho1 ho hc1 hc2 HN hb1
            go_wp2_with fail
            go_region_law (first
              | (refine step_own rfl (.tmp 39) (.tmp 44) 24 rfl w.heap.size 2 i0 (.int .i64 0) 1 8 Tryz.underlying24 hi hz0 hz1 hz2 rfl (by decide) _ _ _ rfl (World.ownsRow.alloc (w := w1.drew) (HO2.out.take m (by omega)) _) ⟨w1.heap.size, 0, none⟩ 1 1 (ints [x]) rfl rfl (one_newS w1.drew x _ _ rfl) (one _) (by unfold maxLen; omega) (by omega) (by simp; omega) ?_; intro v2 w2 hx2 hg2 hn2; obtain ⟨⟨g2, c2, rfl, ho3⟩, hr2, hB3, hs4⟩ := after1 (w := w) hB2 hs3 hgB hne HR1.out hx2 hg2 (no_nilS hn2 rfl); clear hx2 hg2 hn2)
              | (refine step_own rfl (.tmp 45) (.tmp 46) 24 rfl w.heap.size 2 i0 (.int .i64 0) 1 8 Tryz.underlying24 hi hz0 hz1 hz2 rfl (by decide) _ _ _ rfl ho3 ⟨g1, 0, none⟩ _ c1 (ints (xs.drop m)) rfl (by rw [ints_len, List.length_drop]; omega) (news (n := _) hr2.data.1 (fun j hj => by rw [Nat.zero_add]; exact (hr2.cell j hj).1)) (one _) (by unfold maxLen; omega) (by omega) hs4 ?_; intro v3 w3 hx3 hg3 hn3; obtain ⟨⟨g3, c3, rfl, ho4⟩, hB4⟩ := after2 (w := w) (k := k) (zs := zs) hB3 hs4 ho3.data.2.1 hx3 hg3 (no_nilS hn3 rfl) (by omega) (by rw [insK_step (p := m) (by rw [← HS.out, ← HX.out]; exact HM.out), ← HS.out, ← HX.out]); clear hx3 hg3 hn3 ho3 hr2))
            all_goals
              go_wp2_with fail
              go_roundw
              case rel => exact ⟨k + 1, g3, c3, by omega, by go_num, rfl, ho4, hB4⟩
              case measure => simp [intOf]; omega
          · have hcm' : ¬ c = m := fun e => hcm e.symm
            clear hcm
            have HC : ∀ j, j < k - m → wr.cell? ⟨g, m + j, none⟩ = some (.int .i64 (el (xs.drop m) j)) := fun j hj => by
              rw [drop_el]; exact (ho1.cell (m + j) (by omega)).1
            have HN : Hid (∀ (q : Nat) (ob : Obj), ∀ j u, (ints (xs.drop m))[j]? = some u → ((wr.drewN q).alloc ob).cell? ((⟨g, m, none⟩ : Addr).add j) = some u) := fun q ob => news (n := k - m) (by simp; omega) (fun j hj => by rw [World.cell?_alloc_lt _ _ _ (by exact hgl)]; exact HC j hj)
            clear HC
            go_wp2
            go_quiet (fail)
            go_wp2_with (at_builtin; refine wpList_append_own _ rfl (.tmp 32) (.tmp 35) 24 rfl wr.heap.size 2 i0 (.int .i64 0) 1 8 Tryz.underlying24 hi hz0 hz1 hz2 rfl (by decide) _ _ _ rfl (World.ownsRow_made (wr.drewN nq) #[] 0 (Nat.le_refl _) (by unfold maxLen; omega) rfl) ⟨g, m, none⟩ _ _ (ints (xs.drop m)) rfl (by rw [ints_len, List.length_drop]; omega) (HN.out _ _) (one _) (by unfold maxLen; omega) (by omega) (by simp) ?_; intro v1 w1 hx1 hg1 hn1)
            rw [Nat.zero_add, List.nil_append] at hx1
            obtain ⟨⟨g1, c1, rfl, hr1, hne⟩, ho2, hb1, hB2⟩ := after0 (w := w) (W := wr.drewN nq) (m := m) ho1 (below_drewN hB1 nq) hx1 hg1 (no_nilS hn1 rfl) (by show _ ≤ wr.heap.size; omega)
            have hc3 : w1.cell? ⟨b, off + k, none⟩ = some (.int .i64 x) := by rw [hb1.cell (p := ⟨b, off + k, none⟩) (by show _ < wr.heap.size; simp; omega)]; exact hc2
            have hs3 : w.heap.size ≤ w1.heap.size := hB2.size
            have HR1 : Hid (Own w1 wr.heap.size g1 _ c1 (xs.drop m)) := hr1
            have HO2 : Hid (Own w1 w.heap.size g k _ xs) := ho2
            have hgB : w.heap.size ≤ g := hd1.2.1
            clear hx1 hg1 hn1 hr1 ho2 ho1 ho hc1 hc2 HN hb1
            go_wp2_with fail
            go_region_law (first
              | (refine step_own rfl (.tmp 39) (.tmp 44) 24 rfl w.heap.size 2 i0 (.int .i64 0) 1 8 Tryz.underlying24 hi hz0 hz1 hz2 rfl (by decide) _ _ _ rfl (World.ownsRow.alloc (w := w1.drew) (HO2.out.take m (by omega)) _) ⟨w1.heap.size, 0, none⟩ 1 1 (ints [x]) rfl rfl (one_newS w1.drew x _ _ rfl) (one _) (by unfold maxLen; omega) (by omega) (by simp; omega) ?_; intro v2 w2 hx2 hg2 hn2; obtain ⟨⟨g2, c2, rfl, ho3⟩, hr2, hB3, hs4⟩ := after1 (w := w) hB2 hs3 hgB hne HR1.out hx2 hg2 (no_nilS hn2 rfl); clear hx2 hg2 hn2)
              | (refine step_own rfl (.tmp 45) (.tmp 46) 24 rfl w.heap.size 2 i0 (.int .i64 0) 1 8 Tryz.underlying24 hi hz0 hz1 hz2 rfl (by decide) _ _ _ rfl ho3 ⟨g1, 0, none⟩ _ c1 (ints (xs.drop m)) rfl (by rw [ints_len, List.length_drop]; omega) (news (n := _) hr2.data.1 (fun j hj => by rw [Nat.zero_add]; exact (hr2.cell j hj).1)) (one _) (by unfold maxLen; omega) (by omega) hs4 ?_; intro v3 w3 hx3 hg3 hn3; obtain ⟨⟨g3, c3, rfl, ho4⟩, hB4⟩ := after2 (w := w) (k := k) (zs := zs) hB3 hs4 ho3.data.2.1 hx3 hg3 (no_nilS hn3 rfl) (by omega) (by rw [insK_step (p := m) (by rw [← HS.out, ← HX.out]; exact HM.out), ← HS.out, ← HX.out]); clear hx3 hg3 hn3 ho3 hr2))
            all_goals
              go_wp2_with fail
              go_roundw
              case rel => exact ⟨k + 1, g3, c3, by omega, by go_num, rfl, ho4, hB4⟩
              case measure => simp [intOf]; omega
        · have hm0 : decide (0 < m) = true := by simp; omega
          obtain ⟨t, ht⟩ : ∃ t, Hid (m = t + 1) := ⟨m - 1, by show m = _; omega⟩
          have e1 : (m : Int) - 1 = (t : Int) := by have := ht.out; omega
          have hct := (ho1.cell t (by have := ht.out; omega)).1
          have htk : (t : Int) < k := by have := ht.out; omega
          cases hd : decide (x < el xs t) with
          | true =>
            have HP : Hid (pos xs x t = pos xs x k) := by show pos xs x t = _; rw [← hp, ht.out, pos_yes (of_decide_eq_true hd)]
            go_wp2
            go_quiet (fail)
            go_wp2
            go_roundw
            case rel => exact ⟨t, by have := ht.out; omega, by go_num, HP.out, ho1, hc2, below_drewN hB1 _⟩
            case measure => simp [intOf]; have := ht.out; omega
          | false =>
            have HM : Hid (m = pos xs x k) := by show m = _; rw [← hp, ht.out, pos_no (of_decide_eq_false hd)]
            clear h0 hp
            have hmk : (m : Int) ≤ k := by omega
            have hd1 := ho1.data
            have hkc : k ≤ c := hd1.2.2.1
            have hkc' : (k : Int) ≤ c := by omega
            have hkm : k ≤ maxLen := by have := hd1.2.2.2.1; omega
            have hmc : m ≤ c := by omega
            have hmc' : (m : Int) ≤ c := by omega
            have hs2 := hB1.size
            have hgl := ho1.lt
            by_cases hcm : m = c
            · subst hcm
              have HC : ∀ j, j < k - m → wr.cell? ⟨g, 0 + j, none⟩ = some (.int .i64 (el (xs.drop m) j)) := fun j hj => by
                omega
              have HN : Hid (∀ (q : Nat) (ob : Obj), ∀ j u, (ints (xs.drop m))[j]? = some u → ((wr.drewN q).alloc ob).cell? ((⟨g, 0, none⟩ : Addr).add j) = some u) := fun q ob => news (n := k - m) (by simp; omega) (fun j hj => by rw [World.cell?_alloc_lt _ _ _ (by exact hgl)]; exact HC j hj)
              clear HC
              go_wp2
              go_quiet (fail)
              go_wp2_with (at_builtin; refine wpList_append_own _ rfl (.tmp 32) (.tmp 35) 24 rfl wr.heap.size 2 i0 (.int .i64 0) 1 8 Tryz.underlying24 hi hz0 hz1 hz2 rfl (by decide) _ _ _ rfl (World.ownsRow_made (wr.drewN nq) #[] 0 (Nat.le_refl _) (by unfold maxLen; omega) rfl) ⟨g, 0, none⟩ _ _ (ints (xs.drop m)) rfl (by rw [ints_len, List.length_drop]; omega) (HN.out _ _) (one _) (by unfold maxLen; omega) (by omega) (by simp) ?_; intro v1 w1 hx1 hg1 hn1)
              rw [Nat.zero_add, List.nil_append] at hx1
              obtain ⟨⟨g1, c1, rfl, hr1, hne⟩, ho2, hb1, hB2⟩ := after0 (w := w) (W := wr.drewN nq) (m := m) ho1 (below_drewN hB1 nq) hx1 hg1 (no_nilS hn1 rfl) (by show _ ≤ wr.heap.size; omega)
              have hc3 : w1.cell? ⟨b, off + k, none⟩ = some (.int .i64 x) := by rw [hb1.cell (p := ⟨b, off + k, none⟩) (by show _ < wr.heap.size; simp; omega)]; exact hc2
              have hs3 : w.heap.size ≤ w1.heap.size := hB2.size
              have HR1 : Hid (Own w1 wr.heap.size g1 _ c1 (xs.drop m)) := hr1
              have HO2 : Hid (Own w1 w.heap.size g k _ xs) := ho2
              have hgB : w.heap.size ≤ g := hd1.2.1
              clear hx1 hg1 hn1 hr1 ho2 ho1 ho hc1 hc2 HN hb1
              go_wp2_with fail
              go_region_law (first
                | (refine step_own rfl (.tmp 39) (.tmp 44) 24 rfl w.heap.size 2 i0 (.int .i64 0) 1 8 Tryz.underlying24 hi hz0 hz1 hz2 rfl (by decide) _ _ _ rfl (World.ownsRow.alloc (w := w1.drew) (HO2.out.take m (by omega)) _) ⟨w1.heap.size, 0, none⟩ 1 1 (ints [x]) rfl rfl (one_newS w1.drew x _ _ rfl) (one _) (by unfold maxLen; omega) (by omega) (by simp; omega) ?_; intro v2 w2 hx2 hg2 hn2; obtain ⟨⟨g2, c2, rfl, ho3⟩, hr2, hB3, hs4⟩ := after1 (w := w) hB2 hs3 hgB hne HR1.out hx2 hg2 (no_nilS hn2 rfl); clear hx2 hg2 hn2)
                | (refine step_own rfl (.tmp 45) (.tmp 46) 24 rfl w.heap.size 2 i0 (.int .i64 0) 1 8 Tryz.underlying24 hi hz0 hz1 hz2 rfl (by decide) _ _ _ rfl ho3 ⟨g1, 0, none⟩ _ c1 (ints (xs.drop m)) rfl (by rw [ints_len, List.length_drop]; omega) (news (n := _) hr2.data.1 (fun j hj => by rw [Nat.zero_add]; exact (hr2.cell j hj).1)) (one _) (by unfold maxLen; omega) (by omega) hs4 ?_; intro v3 w3 hx3 hg3 hn3; obtain ⟨⟨g3, c3, rfl, ho4⟩, hB4⟩ := after2 (w := w) (k := k) (zs := zs) hB3 hs4 ho3.data.2.1 hx3 hg3 (no_nilS hn3 rfl) (by omega) (by rw [insK_step (p := m) (by rw [← HS.out, ← HX.out]; exact HM.out), ← HS.out, ← HX.out]); clear hx3 hg3 hn3 ho3 hr2))
              all_goals
                go_wp2_with fail
                go_roundw
                case rel => exact ⟨k + 1, g3, c3, by omega, by go_num, rfl, ho4, hB4⟩
                case measure => simp [intOf]; omega
            · have hcm' : ¬ c = m := fun e => hcm e.symm
              clear hcm
              have HC : ∀ j, j < k - m → wr.cell? ⟨g, m + j, none⟩ = some (.int .i64 (el (xs.drop m) j)) := fun j hj => by
                rw [drop_el]; exact (ho1.cell (m + j) (by omega)).1
              have HN : Hid (∀ (q : Nat) (ob : Obj), ∀ j u, (ints (xs.drop m))[j]? = some u → ((wr.drewN q).alloc ob).cell? ((⟨g, m, none⟩ : Addr).add j) = some u) := fun q ob => news (n := k - m) (by simp; omega) (fun j hj => by rw [World.cell?_alloc_lt _ _ _ (by exact hgl)]; exact HC j hj)
              clear HC
              go_wp2
              go_quiet (fail)
              go_wp2_with (at_builtin; refine wpList_append_own _ rfl (.tmp 32) (.tmp 35) 24 rfl wr.heap.size 2 i0 (.int .i64 0) 1 8 Tryz.underlying24 hi hz0 hz1 hz2 rfl (by decide) _ _ _ rfl (World.ownsRow_made (wr.drewN nq) #[] 0 (Nat.le_refl _) (by unfold maxLen; omega) rfl) ⟨g, m, none⟩ _ _ (ints (xs.drop m)) rfl (by rw [ints_len, List.length_drop]; omega) (HN.out _ _) (one _) (by unfold maxLen; omega) (by omega) (by simp) ?_; intro v1 w1 hx1 hg1 hn1)
              rw [Nat.zero_add, List.nil_append] at hx1
              obtain ⟨⟨g1, c1, rfl, hr1, hne⟩, ho2, hb1, hB2⟩ := after0 (w := w) (W := wr.drewN nq) (m := m) ho1 (below_drewN hB1 nq) hx1 hg1 (no_nilS hn1 rfl) (by show _ ≤ wr.heap.size; omega)
              have hc3 : w1.cell? ⟨b, off + k, none⟩ = some (.int .i64 x) := by rw [hb1.cell (p := ⟨b, off + k, none⟩) (by show _ < wr.heap.size; simp; omega)]; exact hc2
              have hs3 : w.heap.size ≤ w1.heap.size := hB2.size
              have HR1 : Hid (Own w1 wr.heap.size g1 _ c1 (xs.drop m)) := hr1
              have HO2 : Hid (Own w1 w.heap.size g k _ xs) := ho2
              have hgB : w.heap.size ≤ g := hd1.2.1
              clear hx1 hg1 hn1 hr1 ho2 ho1 ho hc1 hc2 HN hb1
              go_wp2_with fail
              go_region_law (first
                | (refine step_own rfl (.tmp 39) (.tmp 44) 24 rfl w.heap.size 2 i0 (.int .i64 0) 1 8 Tryz.underlying24 hi hz0 hz1 hz2 rfl (by decide) _ _ _ rfl (World.ownsRow.alloc (w := w1.drew) (HO2.out.take m (by omega)) _) ⟨w1.heap.size, 0, none⟩ 1 1 (ints [x]) rfl rfl (one_newS w1.drew x _ _ rfl) (one _) (by unfold maxLen; omega) (by omega) (by simp; omega) ?_; intro v2 w2 hx2 hg2 hn2; obtain ⟨⟨g2, c2, rfl, ho3⟩, hr2, hB3, hs4⟩ := after1 (w := w) hB2 hs3 hgB hne HR1.out hx2 hg2 (no_nilS hn2 rfl); clear hx2 hg2 hn2)
                | (refine step_own rfl (.tmp 45) (.tmp 46) 24 rfl w.heap.size 2 i0 (.int .i64 0) 1 8 Tryz.underlying24 hi hz0 hz1 hz2 rfl (by decide) _ _ _ rfl ho3 ⟨g1, 0, none⟩ _ c1 (ints (xs.drop m)) rfl (by rw [ints_len, List.length_drop]; omega) (news (n := _) hr2.data.1 (fun j hj => by rw [Nat.zero_add]; exact (hr2.cell j hj).1)) (one _) (by unfold maxLen; omega) (by omega) hs4 ?_; intro v3 w3 hx3 hg3 hn3; obtain ⟨⟨g3, c3, rfl, ho4⟩, hB4⟩ := after2 (w := w) (k := k) (zs := zs) hB3 hs4 ho3.data.2.1 hx3 hg3 (no_nilS hn3 rfl) (by omega) (by rw [insK_step (p := m) (by rw [← HS.out, ← HX.out]; exact HM.out), ← HS.out, ← HX.out]); clear hx3 hg3 hn3 ho3 hr2))
              all_goals
                go_wp2_with fail
                go_roundw
                case rel => exact ⟨k + 1, g3, c3, by omega, by go_num, rfl, ho4, hB4⟩
                case measure => simp [intOf]; omega
    · have hi : ¬ (k : Int) < n := by omega
      have e : k = n := by omega
      subst e
      rw [insK_srt hz] at ho
      go_wp2
      go_ret
      exact ⟨⟨g, c, rfl, ho⟩, hB⟩

end Go.Proofs.YtcgcmceobmpdiaaGreat.Ow

namespace Go.Proofs.YtcgcmceobmpdiaaGreat.Tr
open Go.ChangeShapes Go.WideShapes Go.ChangeAt Go.RowKit
open Ad (Tm)
open Ls (el Row)
open Hu (mnK mxK tmK HT)
open Ow (Own Has srt ints)
set_option linter.unusedVariables false

/-- Whether it can be trimmed; what is left. -/
def TT (zs : List Int) (n : Nat) (f : Int) : Bool := decide (n ≤ 16 ∧ 0 ≤ f ∧ 2 * f < n) && tmK zs n
def TL (zs : List Int) (n : Nat) (f : Int) : List Int := if TT zs n f = true then ((srt zs).drop f.toNat).take (n - 2 * f.toNat) else []

theorem tt_no {zs : List Int} {n : Nat} {f : Int} (h : ¬ (n ≤ 16 ∧ 0 ≤ f ∧ 2 * f < n)) : TT zs n f = false := by rw [TT, decide_eq_false h]; rfl
theorem tt_not {zs : List Int} {n : Nat} {f : Int} (h : tmK zs n = false) : TT zs n f = false := by rw [TT, h, Bool.and_false]
theorem tt_yes {zs : List Int} {n F : Nat} (h1 : n ≤ 16) (h2 : 2 * F < n) (h : tmK zs n = true) : TT zs n F = true := by rw [TT, h, decide_eq_true (by omega)]; rfl
theorem tl_no {zs : List Int} {n : Nat} {f : Int} (h : TT zs n f = false) : TL zs n f = [] := by rw [TL, h]; rfl
theorem tl_yes {zs : List Int} {n F : Nat} (h : TT zs n F = true) : TL zs n F = ((srt zs).drop F).take (n - 2 * F) := by rw [TL, if_pos h]; simp
theorem tl_len {zs : List Int} {n F : Nat} (hz : zs.length = n) (h : TT zs n F = true) : (TL zs n F).length = n - 2 * F := by
  rw [tl_yes h, List.length_take, List.length_drop, Ow.srt_len]; omega

/-- How a call of Trimmed ends. -/
def TR (w : World) (zs : List Int) (n : Nat) (f : Int) (e : Ending) (w' : World) : Prop :=
  (∃ g off c, e = .returned (.tuple #[.slice (some ⟨g, off, none⟩) (TL zs n f).length c, .bool (TT zs n f)]) ∧ Has w' w.heap.size g off (TL zs n f).length (TL zs n f)) ∧ Below w.heap.size w w'

theorem tr_no {w w2 : World} {zs : List Int} {n g : Nat} {f : Int} (h : TT zs n f = false) (hb : Below w.heap.size w w2) (hg : g = w2.heap.size) :
    TR w zs n f (.returned (.tuple #[.slice (some ⟨g, 0, none⟩) 0 0, .bool false])) (w2.alloc (.cells #[] 2)) := by
  subst hg
  refine ⟨⟨w2.heap.size, 0, 0, by rw [tl_no h, h]; rfl, ?_⟩, hb.alloc hb.size _⟩
  rw [tl_no h]
  exact ⟨rfl, hb.size, by simp, fun k hk => by simp at hk, fun k hk => by simp at hk⟩

theorem tr_yes {w w2 : World} {zs : List Int} {n F g off c l : Nat} {l' : Nat} (hz : zs.length = n) (h : TT zs n F = true) (hb : Below w.heap.size w w2) (hl : l = n - 2 * F) (hH : Has w2 w.heap.size g off l (((srt zs).drop F).take (n - 2 * F))) (hl' : l' = l) :
    TR w zs n F (.returned (.tuple #[.slice (some ⟨g, off, none⟩) l' c, .bool true])) w2 := by
  subst hl' hl
  refine ⟨⟨g, off, c, by rw [tl_len hz h, h], ?_⟩, hb⟩
  rw [tl_len hz h, tl_yes h]
  exact hH

set_option maxHeartbeats 1000000 in
theorem i_no (a : Option Addr) (n cap : Nat) (f : Int) (zs : List Int) (w : World) (h : ¬ (n ≤ 16 ∧ 0 ≤ f ∧ 2 * f < n)) (hn : n ≤ 1048576) :
    Calls Tryz.prog 76 #[.slice a n cap, .int .i64 f] w (TR w zs n f) := by
  have hT := tt_no (zs := zs) h
  by_cases h1 : f < 0
  · go_enter Tryz.func76, Tryz.ntmps76
    go_wp2
    all_goals
      go_ret2
      exact tr_no hT (Below.refl _ _) rfl
  · by_cases h2 : ((n : Int) + 1) / 2 ≤ f
    · go_enter Tryz.func76, Tryz.ntmps76
      go_wp2
      all_goals
        go_ret2
        exact tr_no hT (Below.refl _ _) rfl
    · have h3 : (16 : Int) < n := by
        omega
      go_enter Tryz.func76, Tryz.ntmps76
      go_wp2
      all_goals
        go_ret2
        exact tr_no hT (Below.refl _ _) rfl

set_option maxHeartbeats 1000000 in
theorem i_not (a : Option Addr) (n cap F : Nat) (zs : List Int) (w : World) (hr : Row w w.heap.size a n zs) (h1 : n ≤ 16) (h2 : 2 * F < n) (ht : tmK zs n = false) :
    Calls Tryz.prog 76 #[.slice a n cap, .int .i64 F] w (TR w zs n F) := by
  have hT := tt_not (f := F) ht
  have q1 : ¬ (F : Int) < 0 := by omega
  have q2 : ¬ ((n : Int) + 1) / 2 ≤ F := by omega
  have q3 : ¬ (16 : Int) < n := by omega
  have key := Hu.i_Hull a n cap zs w hr (by omega)
  rw [Hu.ht_n (by omega), ht] at key
  go_enter Tryz.func76, Tryz.ntmps76
  go_wp2_with (go_at_call 84; refine key.mono ?_; rintro e w2 ⟨rfl, hb2⟩)
  go_ret2
  exact tr_no hT (hb2.alloc hb2.size _) (by simp)

set_option maxHeartbeats 1000000 in
theorem i_yes (b off n cap F : Nat) (zs : List Int) (w : World) (hz : zs.length = n) (hb : b < w.heap.size) (hc : ∀ k, k < n → w.cell? ⟨b, off + k, none⟩ = some (.int .i64 (el zs k))) (h1 : n ≤ 16) (h2 : 2 * F < n) (ht : tmK zs n = true) :
    Calls Tryz.prog 76 #[.slice (some ⟨b, off, none⟩) n cap, .int .i64 F] w (TR w zs n F) := by
  have hT := tt_yes h1 h2 ht
  have q1 : ¬ (F : Int) < 0 := by omega
  have q2 : ¬ ((n : Int) + 1) / 2 ≤ F := by omega
  have q3 : ¬ (16 : Int) < n := by omega
  have key := Hu.i_Hull (some ⟨b, off, none⟩) n cap zs w ⟨hz, .inr ⟨b, off, rfl, hb, hc⟩⟩ (by omega)
  rw [Hu.ht_n (by omega), ht] at key
  have HC : Hid (∀ k, k < n → w.cell? ⟨b, off + k, none⟩ = some (.int .i64 (el zs k))) := hc
  clear hc
  have e1 : (n : Int) - (F : Int) = ((n - F : Nat) : Int) := by omega
  have e2 : (F : Int) ≤ ((n - F : Nat) : Int) := by omega
  have e3 : F ≤ n - F := by omega
  go_enter Tryz.func76, Tryz.ntmps76
  go_wp2_with (go_at_call 84; refine key.mono ?_; rintro e w2 ⟨rfl, hb2⟩)
  have hB := hb2.alloc hb2.size (.cells #[.int .i64 (Sp.pk true (mnK zs n)), .int .i64 (Sp.pk true (mxK zs n))] 74)
  refine (Ow.inOrder b off n cap zs _ hz (fun k hk => by rw [hB.cell (p := ⟨b, off + k, none⟩) hb]; exact HC.out k hk) (by omega) (.inl (by have := hB.size; omega))).mono ?_
  rintro e w3 ⟨⟨g, c, rfl, ho⟩, hb3⟩
  have hd := ho.data
  have s3 := hB.size
  have hcF : ¬ c = F := by omega
  have hcn : ((n - F : Nat) : Int) ≤ c := by omega
  have hcn' : n - F ≤ c := by omega
  have hp := (ho.part F (n - 2 * F) (by omega)).mono s3
  clear ho hd
  go_wp2_with fail
  go_ret2
  exact tr_yes hz hT (hB.trans (hb3.mono s3)) rfl hp (by omega)

set_option maxHeartbeats 1000000 in
theorem s_no (a : Option Addr) (n cap : Nat) (f : Int) (zs : List Int) (w : World) (h : ¬ (n ≤ 16 ∧ 0 ≤ f ∧ 2 * f < n)) (hn : n ≤ 1048576) :
    Calls Tryz.prog 71 #[.slice a n cap, .int .i64 f] w (TR w zs n f) := by
  have hT := tt_no (zs := zs) h
  by_cases h1 : (16 : Int) < n
  · clear h
    go_enter Tryz.func71, Tryz.ntmps71
    go_wp2
    all_goals
      go_ret2
      exact tr_no hT (Below.refl _ _) rfl
  · by_cases h2 : 0 ≤ f ∧ f ≤ 16
    · have h3 : (n : Int) ≤ 2 * f := by omega
      have hL : Sp.LK 0 16 f = false := by unfold Sp.LK; rw [decide_eq_true h2.1, decide_eq_true h2.2]; rfl
      obtain ⟨F, rfl⟩ : ∃ F : Nat, f = F := ⟨f.toNat, by omega⟩
      have key := Sp.s_l1In 0 16 F w
      rw [hL] at key
      have hF : (F : Int) ≤ 16 := h2.2
      clear h h2 hL
      go_enter Tryz.func71, Tryz.ntmps71
      go_wp2_with (go_at_call 36; refine key.mono ?_; rintro e w ⟨rfl, rfl⟩)
      all_goals
        go_ret2
        exact tr_no hT (Below.refl _ _) rfl
    · have hL : Sp.LK 0 16 f = true := by unfold Sp.LK; by_cases q : 0 ≤ f <;> by_cases q2 : f ≤ 16 <;> simp [q, q2] <;> omega
      have key := Sp.s_l1In 0 16 f w
      rw [hL] at key
      clear h h2 hL
      go_enter Tryz.func71, Tryz.ntmps71
      go_wp2_with (go_at_call 36; refine key.mono ?_; rintro e w ⟨rfl, rfl⟩)
      all_goals
        go_ret2
        exact tr_no hT (Below.refl _ _) rfl

set_option maxRecDepth 100000 in
set_option maxHeartbeats 4000000 in
theorem s_in (b off n cap F : Nat) (zs : List Int) (w : World) (hz : zs.length = n) (hb : b < w.heap.size) (hc : ∀ k, k < n → w.cell? ⟨b, off + k, none⟩ = some (.int .i64 (el zs k))) (h1 : n ≤ 16) (h2 : 2 * F < n) :
    Calls Tryz.prog 71 #[.slice (some ⟨b, off, none⟩) n cap, .int .i64 F] w (TR w zs n F) := by
  obtain ⟨i0, hi, hz0, hz1, hz2⟩ := info_parts Ls.info
  have q1 : ¬ (16 : Int) < n := by omega
  have hL : Sp.LK 0 16 F = false := by unfold Sp.LK; rw [decide_eq_true (by omega), decide_eq_true (by omega)]; rfl
  have key := Sp.s_l1In 0 16 F w
  rw [hL] at key
  have q3 : ¬ (n : Int) ≤ 2 * (F : Int) := by omega
  have q4 : (F : Int) ≤ 16 := by omega
  have HC : Hid (∀ k, k < n → w.cell? ⟨b, off + k, none⟩ = some (.int .i64 (el zs k))) := hc
  clear hc hL
  have e1 : (n : Int) - (F : Int) = ((n - F : Nat) : Int) := by omega
  have e2 : (F : Int) ≤ ((n - F : Nat) : Int) := by omega
  have e3 : F ≤ n - F := by omega
  go_enter Tryz.func71, Tryz.ntmps71
  go_wp2_with (go_at_call 36; refine key.mono ?_; rintro e w ⟨rfl, rfl⟩)
  go_loop [7] (fun i => ∃ k : Nat, k ≤ n ∧ i = .int .i64 k ∧ tmK zs k = true) (fun i => n - (intOf i).toNat)
  case atStart => exact ⟨0, Nat.zero_le _, rfl, rfl⟩
  case round =>
    obtain ⟨k, hk, rfl, ht⟩ := hrel
    by_cases hlt : k < n
    · have hi' : (k : Int) < n := by omega
      have hc1 := HC.out k hlt
      by_cases hT : Tm (el zs k)
      · have hd : decide (Tm (el zs k)) = true := decide_eq_true hT
        have HT' : Hid (tmK zs (k + 1) = true) := by show (tmK zs k && decide (Tm (el zs k))) = true; rw [ht, hd]; rfl
        have ky := Ad.so (el zs k) w
        rw [hd] at ky
        clear hT
        go_wp2_with (go_at_call 79; refine ky.mono ?_; rintro e w ⟨rfl, rfl⟩)
        go_round
        case rel => exact ⟨k + 1, by omega, by go_num, HT'.out⟩
        case measure => simp [intOf]; omega
      · have hd : decide (Tm (el zs k)) = false := decide_eq_false hT
        have HF : Hid (TT zs n F = false) := tt_not (Hu.tm_no (k := k) (by show (tmK zs k && decide (Tm (el zs k))) = false; rw [ht, hd]; rfl) n hlt)
        have ky := Ad.so (el zs k) w
        rw [hd] at ky
        clear hT
        go_wp2_with (go_at_call 79; refine ky.mono ?_; rintro e w ⟨rfl, rfl⟩)
        go_ret2
        exact tr_no HF.out (Below.refl _ _) rfl
    · have hi' : ¬ (k : Int) < n := by omega
      have e : k = n := by omega
      subst e
      have hT := tt_yes h1 h2 ht
      have ky := Ow.s_Sorted b off k cap zs w hz HC.out (by omega) (.inl hb)
      go_wp2_with fail
      refine ky.mono ?_
      rintro e w3 ⟨⟨g, c, rfl, ho⟩, hb3⟩
      have hd := ho.data
      have hcF : ¬ c = F := by omega
      have hcn : ((k - F : Nat) : Int) ≤ c := by omega
      have hcn' : k - F ≤ c := by omega
      have hp := ho.part F (k - 2 * F) (by omega)
      have hgl := ho.lt
      have s3 := hb3.size
      have HN : Hid (∀ (ob : Obj), ∀ j u, (ints (((srt zs).drop F).take (k - 2 * F)))[j]? = some u → (w3.alloc ob).cell? ((⟨g, F, none⟩ : Addr).add j) = some u) := fun ob => Ow.news (n := k - 2 * F) hp.1 (fun j hj => by rw [World.cell?_alloc_lt _ _ _ (by exact hgl)]; exact hp.2.2.2.1 j hj)
      have hpl := hp.1
      clear ho hd hp ky
      go_wp2_with (at_builtin; refine wpList_append_own _ rfl (.tmp 40) (.tmp 46) 24 rfl w.heap.size 2 i0 (.int .i64 0) 1 8 Tryz.underlying24 hi hz0 hz1 hz2 rfl (by decide) _ _ _ rfl (World.ownsRow_made w3 #[] 0 s3 (by unfold maxLen; omega) rfl) ⟨g, F, none⟩ _ _ (ints (((srt zs).drop F).take (k - 2 * F))) rfl (by rw [Ow.ints_len]; omega) (HN.out _) (Ow.one _) (by unfold maxLen; omega) (by omega) (by simp; omega) ?_; intro v1 w4 hx1 hg1 hn1)
      rw [Nat.zero_add, List.nil_append] at hx1
      obtain ⟨g4, c4, rfl, ho4⟩ := Ow.own_of hx1 rfl (Ow.no_nilS hn1 rfl)
      have hB4 : Below w.heap.size w w4 := (hb3.alloc s3 _).grown hg1 (by simp; omega) (by intro j hj; have e : w3.heap.size = j := Option.some.inj hj; omega)
      have hH := ho4.has
      clear hx1 hg1 hn1 ho4
      go_wp2_with fail
      go_ret2
      exact tr_yes hz hT hB4 (by omega) hH rfl

theorem i_Trimmed (b off n cap : Nat) (f : Int) (zs : List Int) (w : World) (hz : zs.length = n) (hb : b < w.heap.size) (hc : ∀ k, k < n → w.cell? ⟨b, off + k, none⟩ = some (.int .i64 (el zs k))) (hn : n ≤ 1048576) :
    Calls Tryz.prog 76 #[.slice (some ⟨b, off, none⟩) n cap, .int .i64 f] w (TR w zs n f) := by
  by_cases h : n ≤ 16 ∧ 0 ≤ f ∧ 2 * f < n
  · obtain ⟨F, rfl⟩ : ∃ F : Nat, f = F := ⟨f.toNat, by omega⟩
    cases ht : tmK zs n with
    | true => exact i_yes b off n cap F zs w hz hb hc h.1 (by omega) ht
    | false => exact i_not _ n cap F zs w ⟨hz, .inr ⟨b, off, rfl, hb, hc⟩⟩ h.1 (by omega) ht
  · exact i_no _ n cap f zs w h hn

theorem s_Trimmed (b off n cap : Nat) (f : Int) (zs : List Int) (w : World) (hz : zs.length = n) (hb : b < w.heap.size) (hc : ∀ k, k < n → w.cell? ⟨b, off + k, none⟩ = some (.int .i64 (el zs k))) (hn : n ≤ 1048576) :
    Calls Tryz.prog 71 #[.slice (some ⟨b, off, none⟩) n cap, .int .i64 f] w (TR w zs n f) := by
  by_cases h : n ≤ 16 ∧ 0 ≤ f ∧ 2 * f < n
  · obtain ⟨F, rfl⟩ : ∃ F : Nat, f = F := ⟨f.toNat, by omega⟩
    exact s_in b off n cap F zs w hz hb hc h.1 (by omega)
  · exact s_no _ n cap f zs w h hn

end Go.Proofs.YtcgcmceobmpdiaaGreat.Tr

namespace Go.Proofs.YtcgcmceobmpdiaaGreat.Tr
open Go.ChangeShapes Go.WideShapes Go.ChangeAt Go.RowKit
open Ad (Tm)
open Ls (el Row)
open Hu (mnK mxK tmK HT)
open Ow (Own Has srt ints)
set_option linter.unusedVariables false

theorem tm_all {zs : List Int} : ∀ n, tmK zs n = true → ∀ k, k < n → Tm (el zs k)
  | 0 => by intro _ k hk; omega
  | n + 1 => by
    intro h k hk
    have h2 : (tmK zs n && decide (Tm (el zs n))) = true := h
    rw [Bool.and_eq_true] at h2
    by_cases e : k = n
    · rw [e]; exact of_decide_eq_true h2.2
    · exact tm_all n h2.1 k (by omega)
theorem tm_mem {zs : List Int} {n : Nat} (hz : zs.length = n) (h : tmK zs n = true) : ∀ x ∈ zs, Tm x := by
  intro x hx
  obtain ⟨k, hk, rfl⟩ := List.mem_iff_getElem.1 hx
  have := tm_all n h k (by omega)
  rw [Ow.el_get hk] at this
  exact this
theorem tl_tm {zs : List Int} {n : Nat} {f : Int} (hz : zs.length = n) (h : TT zs n f = true) : ∀ x ∈ TL zs n f, Tm x := by
  intro x hx
  rw [TL, if_pos h] at hx
  have h3 : tmK zs n = true := by
    unfold TT at h
    rw [Bool.and_eq_true] at h
    exact h.2
  exact tm_mem hz h3 x ((Ow.srt_perm zs).mem_iff.1 (List.mem_of_mem_drop (List.mem_of_mem_take hx)))
theorem tt_dom {zs : List Int} {n : Nat} {f : Int} (h : TT zs n f = true) : n ≤ 16 ∧ 0 ≤ f ∧ 2 * f < n := by
  unfold TT at h
  rw [Bool.and_eq_true] at h
  exact of_decide_eq_true h.1
theorem tl_pos {zs : List Int} {n : Nat} {f : Int} (hz : zs.length = n) (h : TT zs n f = true) : 0 < (TL zs n f).length := by
  have hd := tt_dom h
  obtain ⟨F, rfl⟩ : ∃ F : Nat, f = F := ⟨f.toNat, by omega⟩
  rw [tl_len hz h]; omega
theorem el_tm {ls : List Int} (h : ∀ x ∈ ls, Tm x) {k : Nat} (hk : k < ls.length) : Tm (el ls k) := by
  rw [Ow.el_get hk]; exact h _ (List.getElem_mem hk)

theorem tl_le (zs : List Int) (n : Nat) (f : Int) : (TL zs n f).length ≤ n := by
  unfold TL
  split
  · rw [List.length_take]; omega
  · simp

/-- The first one and the last one that are left, and their middle. -/
def FL (zs : List Int) (n : Nat) (f : Int) : Int := el (TL zs n f) 0 + el (TL zs n f) ((TL zs n f).length - 1)
def MV (zs : List Int) (n : Nat) (f : Int) : Int := if TT zs n f = true then FL zs n f / 2 else 0
theorem mv_no {zs : List Int} {n : Nat} {f : Int} (h : TT zs n f = false) : MV zs n f = 0 := by rw [MV, h]; rfl
theorem mv_yes {zs : List Int} {n : Nat} {f : Int} (h : TT zs n f = true) : MV zs n f = FL zs n f / 2 := by rw [MV, if_pos h]

set_option maxHeartbeats 1000000 in
theorem s_floor (n : Int) (h0 : -9000000000000000000 ≤ n) (h1 : n ≤ 9000000000000000000) (w : World) :
    Calls Tryz.prog 72 #[.int .i64 n, .int .i64 2] w fun e w' => e = .returned (.int .i64 (n / 2)) ∧ w' = w := by
  by_cases hm : n.tmod 2 < 0
  · have e := Ad.floor_t (n := n) (k := 2) (by omega) hm
    have HE : Hid (n.tdiv 2 - 1 = n / 2) := e
    have b0 : -4500000000000000001 ≤ n.tdiv 2 := by omega
    have b1 : n.tdiv 2 ≤ 4500000000000000001 := by omega
    clear e
    go_enter Tryz.func72, Tryz.ntmps72
    go_wp2
    go_ret
    exact ⟨Sp.reti HE.out, rfl⟩
  · have e := Ad.floor_e (n := n) (k := 2) (by omega) hm
    have HE : Hid (n.tdiv 2 = n / 2) := e
    clear e
    go_enter Tryz.func72, Tryz.ntmps72
    go_wp2
    go_ret
    exact ⟨Sp.reti HE.out, rfl⟩

set_option maxHeartbeats 1000000 in
theorem i_MiddleOf (b off n cap : Nat) (f : Int) (zs : List Int) (w : World) (hz : zs.length = n) (hb : b < w.heap.size) (hc : ∀ k, k < n → w.cell? ⟨b, off + k, none⟩ = some (.int .i64 (el zs k))) (hn : n ≤ 1048576) :
    Calls Tryz.prog 67 #[.slice (some ⟨b, off, none⟩) n cap, .int .i64 f] w fun e w' => e = .returned (.tuple #[.int .i64 (MV zs n f), .bool (TT zs n f)]) ∧ Below w.heap.size w w' := by
  have key := i_Trimmed b off n cap f zs w hz hb hc hn
  clear hc
  unfold TR at key
  cases hT : TT zs n f with
  | false =>
    rw [mv_no hT]
    rw [hT] at key
    go_enter Tryz.func67, Tryz.ntmps67
    go_wp2_with fail
    refine key.mono ?_
    rintro e w2 ⟨⟨g, o, c, rfl, hH⟩, hb2⟩
    clear hH
    go_wp2
    go_ret2
    exact ⟨rfl, hb2⟩
  | true =>
    rw [mv_yes hT]
    have hp := tl_pos hz hT
    have hle := tl_le zs n f
    have ht := tl_tm hz hT
    have t0 := el_tm ht hp
    have t1 := el_tm ht (k := (TL zs n f).length - 1) (by omega)
    clear ht
    rw [hT] at key
    unfold FL
    generalize TL zs n f = L at key hp hle t0 t1
    obtain ⟨p, hpL⟩ : ∃ p, Hid (L.length = p + 1) := ⟨L.length - 1, by show _ = _; omega⟩
    rw [hpL.out] at key t1 ⊢
    rw [Nat.add_sub_cancel] at t1 ⊢
    have hpb : (p : Int) < 1048576 := by have := hpL.out; omega
    clear hp hle
    go_enter Tryz.func67, Tryz.ntmps67
    go_wp2_with fail
    refine key.mono ?_
    rintro e w2 ⟨⟨g, o, c, rfl, hH⟩, hb2⟩
    have c0 := hH.2.2.2.1 0 (by omega)
    have c1 := hH.2.2.2.1 p (by omega)
    rw [Nat.add_zero] at c0
    clear hH
    obtain ⟨a0, a1⟩ := t0
    obtain ⟨b0, b1⟩ := t1
    go_wp2
    go_quiet (fail)
    go_wp2
    go_ret2
    exact ⟨rfl, below_drewN hb2 _⟩

set_option maxHeartbeats 1000000 in
theorem s_MiddleOf (b off n cap : Nat) (f : Int) (zs : List Int) (w : World) (hz : zs.length = n) (hb : b < w.heap.size) (hc : ∀ k, k < n → w.cell? ⟨b, off + k, none⟩ = some (.int .i64 (el zs k))) (hn : n ≤ 1048576) :
    Calls Tryz.prog 60 #[.slice (some ⟨b, off, none⟩) n cap, .int .i64 f] w fun e w' => e = .returned (.tuple #[.int .i64 (MV zs n f), .bool (TT zs n f)]) ∧ Below w.heap.size w w' := by
  have key := s_Trimmed b off n cap f zs w hz hb hc hn
  clear hc
  unfold TR at key
  cases hT : TT zs n f with
  | false =>
    rw [mv_no hT]
    rw [hT] at key
    go_enter Tryz.func60, Tryz.ntmps60
    go_wp2_with fail
    refine key.mono ?_
    rintro e w2 ⟨⟨g, o, c, rfl, hH⟩, hb2⟩
    clear hH
    go_wp2
    go_ret2
    exact ⟨rfl, hb2⟩
  | true =>
    rw [mv_yes hT]
    have hp := tl_pos hz hT
    have hle := tl_le zs n f
    have ht := tl_tm hz hT
    have t0 := el_tm ht hp
    have t1 := el_tm ht (k := (TL zs n f).length - 1) (by omega)
    clear ht
    rw [hT] at key
    unfold FL
    generalize TL zs n f = L at key hp hle t0 t1
    obtain ⟨p, hpL⟩ : ∃ p, Hid (L.length = p + 1) := ⟨L.length - 1, by show _ = _; omega⟩
    rw [hpL.out] at key t1 ⊢
    rw [Nat.add_sub_cancel] at t1 ⊢
    have hpb : (p : Int) < 1048576 := by have := hpL.out; omega
    clear hp hle
    go_enter Tryz.func60, Tryz.ntmps60
    go_wp2_with fail
    refine key.mono ?_
    rintro e w2 ⟨⟨g, o, c, rfl, hH⟩, hb2⟩
    have c0 := hH.2.2.2.1 0 (by omega)
    have c1 := hH.2.2.2.1 p (by omega)
    rw [Nat.add_zero] at c0
    clear hH
    obtain ⟨a0, a1⟩ := t0
    obtain ⟨b0, b1⟩ := t1
    go_wp2
    go_quiet (first | (go_at_call 72; refine Calls.quiet_of_same (s_floor (el L 0 + el L p) (by omega) (by omega) _)))
    go_wp2
    go_ret2
    exact ⟨rfl, below_drewN hb2 _⟩

end Go.Proofs.YtcgcmceobmpdiaaGreat.Tr

namespace Go.Proofs.YtcgcmceobmpdiaaGreat.Tu
open Go.ChangeShapes Go.WideShapes Go.ChangeAt Go.RowKit
open Ls (el Row)
open Ow (Has ints)
open Rd (Flags)
open Bo (eb HasB)
open Rm (Room)
open Sp (span LK)
open Wl (wld c9 WO bad allIn)
open Ss (RowsAt ln rw_ tot)
open Tr (MV TT)
set_option linter.unusedVariables false
set_option linter.unusedSimpArgs false

set_option maxHeartbeats 8000000 in
set_option maxRecDepth 100000 in
theorem i_CorrectionOf (n l d r p s t : Int) (b off k cK : Nat) (aO : Option Addr) (m cO : Nat) (aD aE aL aF aR : Option Addr) (nD cD nE cE nL cL nF cF nR cR : Nat) (ks os ds : List Int) (es ls : List (List Int)) (fs rs : List Bool) (w : World) (hz : ks.length = k) (hc : ∀ j, j < k → w.cell? ⟨b, off + j, none⟩ = some (.int .i64 (el ks j))) (hb : b < w.heap.size) (rO : Row w w.heap.size aO m os) (rD : Row w w.heap.size aD nD ds) (rE : RowsAt w w.heap.size aE nE es) (rL : RowsAt w w.heap.size aL nL ls) (rF : Flags w w.heap.size aF nF fs) (rR : Flags w w.heap.size aR nR rs) (hk : k ≤ 1048576) (hm : m ≤ 1048576) (hnF : nF ≤ 1048576) (hnR : nR ≤ 1048576) (hnD : nD ≤ 1048576) (hnE : nE ≤ 1048576) (hnL : nL ≤ 1048576) (htE : tot es nE ≤ 1048576) (htL : tot ls nL ≤ 1048576) (i : Int) :
    Calls Tryz.prog 53 #[wld n l d r p s (.slice (some ⟨b, off, none⟩) k cK) (.slice aO m cO) t, trn (.slice aD nD cD) (.slice aE nE cE) (.slice aL nL cL) (.slice aF nF cF) (.slice aR nR cR), .int .i64 i] w fun e w' => e = .returned (.tuple #[.int .i64 (MV (GO n l d r p s ks k os m t ds es ls fs rs nF nR i) (GO n l d r p s ks k os m t ds es ls fs rs nF nR i).length l), .bool (TT (GO n l d r p s ks k os m t ds es ls fs rs nF nR i) (GO n l d r p s ks k os m t ds es ls fs rs nF nR i).length l)]) ∧ Below w.heap.size w w' := by
  have R0 := (Room.new w (c9 n l d r p s (.slice (some ⟨b, off, none⟩) k cK) (.slice aO m cO) t) 32).alloc (.cells #[.slice aD nD cD, .slice aE nE cE, .slice aL nL cL, .slice aF nF cF, .slice aR nR cR] 53)
  have T0 : Room ((w.alloc (.cells (c9 n l d r p s (.slice (some ⟨b, off, none⟩) k cK) (.slice aO m cO) t).toArray 32)).alloc (.cells #[.slice aD nD cD, .slice aE nE cE, .slice aL nL cL, .slice aF nF cF, .slice aR nR cR] 53)) (w.heap.size + 1) [.slice aD nD cD, .slice aE nE cE, .slice aL nL cL, .slice aF nF cF, .slice aR nR cR] := Room.at _ [.slice aD nD cD, .slice aE nE cE, .slice aL nL cL, .slice aF nF cF, .slice aR nR cR] 53 _ (by simp)
  have BB := ((Below.refl w.heap.size w).alloc (Nat.le_refl _) (.cells (c9 n l d r p s (.slice (some ⟨b, off, none⟩) k cK) (.slice aO m cO) t).toArray 32)).alloc (by simp) (.cells #[.slice aD nD cD, .slice aE nE cE, .slice aL nL cL, .slice aF nF cF, .slice aR nR cR] 53)
  have hL : (GO n l d r p s ks k os m t ds es ls fs rs nF nR i).length ≤ 1048576 := Nat.le_trans (go_len n l d r p s ks k os m t ds es ls fs rs nF nR i) hk
  go_enter Tryz.func53, Tryz.ntmps53
  have cR00 := R0.cell 0 rfl
  have cR01 := R0.cell 1 rfl
  have cR02 := R0.cell 2 rfl
  have cR03 := R0.cell 3 rfl
  have cR04 := R0.cell 4 rfl
  have cR05 := R0.cell 5 rfl
  have cR06 := R0.cell 6 rfl
  have cR07 := R0.cell 7 rfl
  have cR08 := R0.cell 8 rfl
  have lR0 := R0.lt (by simp)
  have cT00 := T0.cell 0 rfl
  have cT01 := T0.cell 1 rfl
  have cT02 := T0.cell 2 rfl
  have cT03 := T0.cell 3 rfl
  have cT04 := T0.cell 4 rfl
  have lT0 := T0.lt (by simp)
  go_wp2_with fail
  refine wp_region_noPanic ?_
  refine wp_region_held_drew (S := (fun w' => w'.cell? ⟨w.heap.size, 0, none⟩ = some (.int .i64 n) ∧ w'.cell? ⟨w.heap.size, 1, none⟩ = some (.int .i64 l) ∧ w'.cell? ⟨w.heap.size, 2, none⟩ = some (.int .i64 d) ∧ w'.cell? ⟨w.heap.size, 3, none⟩ = some (.int .i64 r) ∧ w'.cell? ⟨w.heap.size, 4, none⟩ = some (.int .i64 p) ∧ w'.cell? ⟨w.heap.size, 5, none⟩ = some (.int .i64 s) ∧ w'.cell? ⟨w.heap.size, 6, none⟩ = some (.slice (some ⟨b, off, none⟩) k cK) ∧ w'.cell? ⟨w.heap.size, 7, none⟩ = some (.slice aO m cO) ∧ w'.cell? ⟨w.heap.size, 8, none⟩ = some (.int .i64 t) ∧ w'.cell? ⟨w.heap.size + 1, 0, none⟩ = some (.slice aD nD cD) ∧ w'.cell? ⟨w.heap.size + 1, 1, none⟩ = some (.slice aE nE cE) ∧ w'.cell? ⟨w.heap.size + 1, 2, none⟩ = some (.slice aL nL cL) ∧ w'.cell? ⟨w.heap.size + 1, 3, none⟩ = some (.slice aF nF cF) ∧ w'.cell? ⟨w.heap.size + 1, 4, none⟩ = some (.slice aR nR cR) ∧ Hid (Below w.heap.size w w' ∧ Rm.Room w' (w.heap.size) [.int .i64 n, .int .i64 l, .int .i64 d, .int .i64 r, .int .i64 p, .int .i64 s, .slice (some ⟨b, off, none⟩) k cK, .slice aO m cO, .int .i64 t] ∧ Rm.Room w' (w.heap.size + 1) [.slice aD nD cD, .slice aE nE cE, .slice aL nL cL, .slice aF nF cF, .slice aR nR cR]))) (by kernel_rfl) ⟨R0.cell 0 rfl, R0.cell 1 rfl, R0.cell 2 rfl, R0.cell 3 rfl, R0.cell 4 rfl, R0.cell 5 rfl, R0.cell 6 rfl, R0.cell 7 rfl, R0.cell 8 rfl, T0.cell 0 rfl, T0.cell 1 rfl, T0.cell 2 rfl, T0.cell 3 rfl, T0.cell 4 rfl, ⟨BB.drew, R0.drew, T0.drew⟩⟩ (fun hHeld => ?_)
  refine Tk.W 0 (some 8) (.load 32 (.tmp 3)) 32 none ?_
  refine Tk.W 1 (some 9) (.load 53 (.tmp 4)) 53 none ?_
  refine Tk.W 2 (some 10) (.move (.tmp 2)) 2 none ?_
  refine Tk.W 4 (some 12) (.fieldAddr 32 (.tmp 3) 0) 0 none ?_
  refine Tk.W 5 (some 13) (.fieldAddr 30 (.tmp 12) 1) 0 none ?_
  refine Tk.W 6 (some 14) (.load 2 (.tmp 13)) 2 none ?_
  refine Tk.R 3 (some 11) (.call ⟨.value (.func 68), #[.tmp 8, .tmp 9, .tmp 10], #[32, 53, 2]⟩) 24 none (fun K hK => ?_)
  go_simp
  refine (i_GuessesOf n l d r p s t b off k cK _ m cO _ _ _ _ _ nD cD nE cE nL cL nF cF nR cR ks os ds es ls fs rs _ hz (fun j hj => by rw [Below.cell hHeld.2.2.2.2.2.2.2.2.2.2.2.2.2.2.out.1 (p := ⟨b, off + j, none⟩) hb]; exact hc j hj) (Nat.lt_of_lt_of_le hb hHeld.2.2.2.2.2.2.2.2.2.2.2.2.2.2.out.1.size) ((rO.later hHeld.2.2.2.2.2.2.2.2.2.2.2.2.2.2.out.1 (Nat.le_refl _)).more hHeld.2.2.2.2.2.2.2.2.2.2.2.2.2.2.out.1.size) ((rD.later hHeld.2.2.2.2.2.2.2.2.2.2.2.2.2.2.out.1 (Nat.le_refl _)).more hHeld.2.2.2.2.2.2.2.2.2.2.2.2.2.2.out.1.size) ((rE.later hHeld.2.2.2.2.2.2.2.2.2.2.2.2.2.2.out.1 (Nat.le_refl _)).more hHeld.2.2.2.2.2.2.2.2.2.2.2.2.2.2.out.1.size) ((rL.later hHeld.2.2.2.2.2.2.2.2.2.2.2.2.2.2.out.1 (Nat.le_refl _)).more hHeld.2.2.2.2.2.2.2.2.2.2.2.2.2.2.out.1.size) ((rF.later hHeld.2.2.2.2.2.2.2.2.2.2.2.2.2.2.out.1 (Nat.le_refl _)).more hHeld.2.2.2.2.2.2.2.2.2.2.2.2.2.2.out.1.size) ((rR.later hHeld.2.2.2.2.2.2.2.2.2.2.2.2.2.2.out.1 (Nat.le_refl _)).more hHeld.2.2.2.2.2.2.2.2.2.2.2.2.2.2.out.1.size) hk hm hnF hnR hnD hnE hnL htE htL i).mono ?_
  rintro e vq7 ⟨⟨gU, cU, rfl, oU⟩, b_q7⟩
  have ⟨BB_q7, R0_q7, T0_q7⟩ := hHeld.2.2.2.2.2.2.2.2.2.2.2.2.2.2.out
  have BB2_q7 := BB_q7.trans (b_q7.mono BB_q7.size)
  have R02_q7 := R0_q7.below b_q7
  have T02_q7 := T0_q7.below b_q7
  have kvq7 := Tk.kv hK (w := vq7) ⟨R02_q7.cell 0 rfl, R02_q7.cell 1 rfl, R02_q7.cell 2 rfl, R02_q7.cell 3 rfl, R02_q7.cell 4 rfl, R02_q7.cell 5 rfl, R02_q7.cell 6 rfl, R02_q7.cell 7 rfl, R02_q7.cell 8 rfl, T02_q7.cell 0 rfl, T02_q7.cell 1 rfl, T02_q7.cell 2 rfl, T02_q7.cell 3 rfl, T02_q7.cell 4 rfl, ⟨BB2_q7, R02_q7, T02_q7⟩⟩
  have hU := oU.has
  clear oU
  clear BB_q7 R0_q7 T0_q7 BB2_q7 R02_q7 T02_q7
  try dsimp only
  refine hK.out _ _ kvq7 ?_; clear hK K hHeld; intro hHeld; try simp only [Act.put, List.setIfInBounds_toArray, List.set_cons_zero, List.set_cons_succ]
  refine Tk.R 7 (some 15) (.call ⟨.value (.func 67), #[.tmp 11, .tmp 14], #[24, 2]⟩) 68 none (fun K hK => ?_)
  go_simp
  refine (Tr.i_MiddleOf gU 0 (GO n l d r p s ks k os m t ds es ls fs rs nF nR i).length cU l (GO n l d r p s ks k os m t ds es ls fs rs nF nR i) _ hU.1 hU.2.2.1 hU.2.2.2.1 hL).mono ?_
  rintro e vq8 ⟨rfl, b_q8⟩
  have ⟨BB_q8, R0_q8, T0_q8⟩ := hHeld.2.2.2.2.2.2.2.2.2.2.2.2.2.2.out
  have BB2_q8 := BB_q8.trans (b_q8.mono BB_q8.size)
  have R02_q8 := R0_q8.below b_q8
  have T02_q8 := T0_q8.below b_q8
  have kvq8 := Tk.kv hK (w := vq8) ⟨R02_q8.cell 0 rfl, R02_q8.cell 1 rfl, R02_q8.cell 2 rfl, R02_q8.cell 3 rfl, R02_q8.cell 4 rfl, R02_q8.cell 5 rfl, R02_q8.cell 6 rfl, R02_q8.cell 7 rfl, R02_q8.cell 8 rfl, T02_q8.cell 0 rfl, T02_q8.cell 1 rfl, T02_q8.cell 2 rfl, T02_q8.cell 3 rfl, T02_q8.cell 4 rfl, ⟨BB2_q8, R02_q8, T02_q8⟩⟩
  clear hU
  clear BB_q8 R0_q8 T0_q8 BB2_q8 R02_q8 T02_q8
  try dsimp only
  refine hK.out _ _ kvq8 ?_; clear hK K hHeld; intro hHeld; try simp only [Act.put, List.setIfInBounds_toArray, List.set_cons_zero, List.set_cons_succ]
  refine Tk.W 8 (some 16) (.extract (.tmp 15) 0) 2 none ?_
  refine Tk.W 9 (some 17) (.extract (.tmp 15) 1) 4 none ?_
  refine Tk.W 10 (some 6) (.assign (.tmp 16)) 2 none ?_
  refine Tk.W 11 (some 7) (.assign (.tmp 17)) 4 none ?_
  refine wpAnyH_done (by kernel_rfl) ?_ _
  refine NoPanic.normal ?_
  clear BB R0 T0
  obtain ⟨BB, R0, T0⟩ := hHeld.2.2.2.2.2.2.2.2.2.2.2.2.2.2.out
  clear hHeld
  clear cR00 cR01 cR02 cR03 cR04 cR05 cR06 cR07 cR08 lR0 cT00 cT01 cT02 cT03 cT04 lT0
  go_wp2
  go_ret2
  exact ⟨rfl, BB⟩

set_option maxHeartbeats 8000000 in
set_option maxRecDepth 100000 in
theorem s_CorrectionOf (n l d r p s t : Int) (b off k cK : Nat) (aO : Option Addr) (m cO : Nat) (aD aE aL aF aR : Option Addr) (nD cD nE cE nL cL nF cF nR cR : Nat) (ks os ds : List Int) (es ls : List (List Int)) (fs rs : List Bool) (w : World) (hz : ks.length = k) (hc : ∀ j, j < k → w.cell? ⟨b, off + j, none⟩ = some (.int .i64 (el ks j))) (hb : b < w.heap.size) (rO : Row w w.heap.size aO m os) (rD : Row w w.heap.size aD nD ds) (rE : RowsAt w w.heap.size aE nE es) (rL : RowsAt w w.heap.size aL nL ls) (rF : Flags w w.heap.size aF nF fs) (rR : Flags w w.heap.size aR nR rs) (hk : k ≤ 1048576) (hm : m ≤ 1048576) (hnF : nF ≤ 1048576) (hnR : nR ≤ 1048576) (i : Int) :
    Calls Tryz.prog 43 #[wld n l d r p s (.slice (some ⟨b, off, none⟩) k cK) (.slice aO m cO) t, trn (.slice aD nD cD) (.slice aE nE cE) (.slice aL nL cL) (.slice aF nF cF) (.slice aR nR cR), .int .i64 i] w fun e w' => e = .returned (.tuple #[.int .i64 (MV (GO n l d r p s ks k os m t ds es ls fs rs nF nR i) (GO n l d r p s ks k os m t ds es ls fs rs nF nR i).length l), .bool (TT (GO n l d r p s ks k os m t ds es ls fs rs nF nR i) (GO n l d r p s ks k os m t ds es ls fs rs nF nR i).length l)]) ∧ Below w.heap.size w w' := by
  have R0 := (Room.new w (c9 n l d r p s (.slice (some ⟨b, off, none⟩) k cK) (.slice aO m cO) t) 32).alloc (.cells #[.slice aD nD cD, .slice aE nE cE, .slice aL nL cL, .slice aF nF cF, .slice aR nR cR] 53)
  have T0 : Room ((w.alloc (.cells (c9 n l d r p s (.slice (some ⟨b, off, none⟩) k cK) (.slice aO m cO) t).toArray 32)).alloc (.cells #[.slice aD nD cD, .slice aE nE cE, .slice aL nL cL, .slice aF nF cF, .slice aR nR cR] 53)) (w.heap.size + 1) [.slice aD nD cD, .slice aE nE cE, .slice aL nL cL, .slice aF nF cF, .slice aR nR cR] := Room.at _ [.slice aD nD cD, .slice aE nE cE, .slice aL nL cL, .slice aF nF cF, .slice aR nR cR] 53 _ (by simp)
  have BB := ((Below.refl w.heap.size w).alloc (Nat.le_refl _) (.cells (c9 n l d r p s (.slice (some ⟨b, off, none⟩) k cK) (.slice aO m cO) t).toArray 32)).alloc (by simp) (.cells #[.slice aD nD cD, .slice aE nE cE, .slice aL nL cL, .slice aF nF cF, .slice aR nR cR] 53)
  have hL : (GO n l d r p s ks k os m t ds es ls fs rs nF nR i).length ≤ 1048576 := Nat.le_trans (go_len n l d r p s ks k os m t ds es ls fs rs nF nR i) hk
  go_enter Tryz.func43, Tryz.ntmps43
  have cR00 := R0.cell 0 rfl
  have cR01 := R0.cell 1 rfl
  have cR02 := R0.cell 2 rfl
  have cR03 := R0.cell 3 rfl
  have cR04 := R0.cell 4 rfl
  have cR05 := R0.cell 5 rfl
  have cR06 := R0.cell 6 rfl
  have cR07 := R0.cell 7 rfl
  have cR08 := R0.cell 8 rfl
  have lR0 := R0.lt (by simp)
  have cT00 := T0.cell 0 rfl
  have cT01 := T0.cell 1 rfl
  have cT02 := T0.cell 2 rfl
  have cT03 := T0.cell 3 rfl
  have cT04 := T0.cell 4 rfl
  have lT0 := T0.lt (by simp)
  go_wp2_with fail
  refine (s_GuessesOf n l d r p s t b off k cK _ m cO _ _ _ _ _ nD cD nE cE nL cL nF cF nR cR ks os ds es ls fs rs _ hz (fun j hj => by rw [Below.cell BB (p := ⟨b, off + j, none⟩) hb]; exact hc j hj) (Nat.lt_of_lt_of_le hb BB.size) ((rO.later BB (Nat.le_refl _)).more BB.size) ((rD.later BB (Nat.le_refl _)).more BB.size) ((rE.later BB (Nat.le_refl _)).more BB.size) ((rL.later BB (Nat.le_refl _)).more BB.size) ((rF.later BB (Nat.le_refl _)).more BB.size) ((rR.later BB (Nat.le_refl _)).more BB.size) hk hm hnF hnR i).mono ?_
  rintro e w2 ⟨⟨gU, cU, rfl, oU⟩, b2⟩
  clear cR00 cR01 cR02 cR03 cR04 cR05 cR06 cR07 cR08 lR0 cT00 cT01 cT02 cT03 cT04 lT0
  have z_b2 := b2.size
  (try simp at z_b2)
  replace R0 := R0.below b2
  replace T0 := T0.below b2
  replace BB := BB.trans (b2.mono BB.size)
  have hU := oU.has
  clear oU
  have c1 := R0.cell 1 rfl
  by_cases h0 : (GO n l d r p s ks k os m t ds es ls fs rs nF nR i).length = 0
  case pos =>
    have E : Hid (MV (GO n l d r p s ks k os m t ds es ls fs rs nF nR i) (GO n l d r p s ks k os m t ds es ls fs rs nF nR i).length l = 0 ∧ TT (GO n l d r p s ks k os m t ds es ls fs rs nF nR i) (GO n l d r p s ks k os m t ds es ls fs rs nF nR i).length l = false) := by
      have h1 : TT (GO n l d r p s ks k os m t ds es ls fs rs nF nR i) (GO n l d r p s ks k os m t ds es ls fs rs nF nR i).length l = false := Tr.tt_no (by omega)
      exact ⟨Tr.mv_no h1, h1⟩
    have h2 : (((GO n l d r p s ks k os m t ds es ls fs rs nF nR i).length : Int) == 0) = true := by simp [h0]
    clear h0
    go_wp2
    go_ret2
    exact ⟨by rw [E.out.1, E.out.2]; rfl, BB⟩
  case neg =>
    have h2 : (((GO n l d r p s ks k os m t ds es ls fs rs nF nR i).length : Int) == 0) = false := by rw [beq_eq_false_iff_ne]; omega
    go_wp2_with fail
    refine (Tr.s_MiddleOf gU 0 (GO n l d r p s ks k os m t ds es ls fs rs nF nR i).length cU l (GO n l d r p s ks k os m t ds es ls fs rs nF nR i) _ hU.1 hU.2.2.1 hU.2.2.2.1 hL).mono ?_
    rintro e w3 ⟨rfl, b3⟩
    go_wp2
    go_ret2
    exact ⟨rfl, BB.trans (b3.mono BB.size)⟩

end Go.Proofs.YtcgcmceobmpdiaaGreat.Tu
