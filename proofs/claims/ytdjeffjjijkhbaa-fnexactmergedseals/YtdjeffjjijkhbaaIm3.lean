/-
  impl.BestRound.
-/
import Derived.Test.YtdjeffjjijkhbaaIm2
namespace Go.Proofs.Ytdjeffjjijkhbaa.Mi
open Go.ChangeShapes Go.WideShapes Go.ChangeAt Go.RowKit
open Ls (Row)
open Rm (Room)
open Sb (S3 es fl sl Row3 SHas)
open Og (OwnS)
open Mg
open Sl (SR)
set_option linter.unusedVariables false
set_option linter.unusedSimpArgs false

/-- What lies in memory behind k of them: the flags of each round beyond the best one. -/
structure Bi (w wr : World) (R : S3 → Bool) (A : List S3) (f fr : Int) (k : Nat) (v : Int) : Prop where
  FM : ∀ r : Nat, r < 1001 → v < (r : Int) → fr ≤ (r : Int) → FL wr w.heap.size (r * 16) (FF R (A.take k) r)
  v0 : v = 0 ∨ (0 < v ∧ fr ≤ v ∧ f < (ct (FF R A v) 16 : Nat))
  low : ∀ r : Int, 0 < r → fr ≤ r → f < (ct (FF R (A.take k) r) 16 : Nat) → r ≤ v
  BB : Below w.heap.size w wr
  hg : w.heap.size < wr.heap.size
theorem Bi.nn {w wr : World} {R : S3 → Bool} {A : List S3} {f fr v : Int} {k : Nat} (h : Bi w wr R A f fr k v) : 0 ≤ v := by
  rcases h.v0 with q | ⟨q, _⟩ <;> omega
theorem Bi.below {w wr w2 : World} {R : S3 → Bool} {A : List S3} {f fr v : Int} {k : Nat} (h : Bi w wr R A f fr k v) (b : Below wr.heap.size wr w2) : Bi w w2 R A f fr k v :=
  ⟨fun r h1 h2 h3 => (h.FM r h1 h2 h3).block (b.block _ h.hg), h.v0, h.low, h.BB.trans (b.mono h.BB.size), by have := b.size; have := h.hg; omega⟩
theorem Bi.skip {w wr : World} {R : S3 → Bool} {A : List S3} {f fr v : Int} {k : Nat} (h : Bi w wr R A f fr k v) (hk : k < A.length) (q : (es A k).1 < fr ∨ (es A k).1 ≤ v ∨ R (es A k) = false) : Bi w wr R A f fr (k + 1) v := by
  have no : ∀ r : Int, v < r → fr ≤ r → ∀ j, FF R (A.take (k + 1)) r j = FF R (A.take k) r j := fun r h1 h2 j => by
    refine ff_step_no hk ?_ j
    rcases q with q | q | q
    · right; omega
    · right; omega
    · exact .inl q
  refine ⟨fun r h1 h2 h3 => (h.FM r h1 h2 h3).congr fun j _ => (no r h2 h3 j).symm, h.v0, fun r h0 h1 h2 => ?_, h.BB, h.hg⟩
  by_cases c : r ≤ v
  · exact c
  · rw [ct_congr fun j _ => no r (by omega) h1 j] at h2
    exact h.low r h0 h1 h2
theorem ff_take_mono {R : S3 → Bool} {A : List S3} {k : Nat} {r : Int} (j : Nat) (h : FF R (A.take k) r j = true) : FF R A r j = true := by
  obtain ⟨x, hx, q⟩ := ff_iff.1 h
  exact ff_iff.2 ⟨x, List.mem_of_mem_take hx, q⟩
/-- One more has signed. -/
theorem Bi.mark {w wr : World} {R : S3 → Bool} {A : List S3} {f fr v : Int} {k r j : Nat} (h : Bi w wr R A f fr k v) (hk : k < A.length) (hR : R (es A k) = true) (h1 : (es A k).1 = (r : Int)) (h2 : (es A k).2.1 = (j : Int)) (hr : r < 1001) (hj : j < 16) (hf : fr ≤ (r : Int)) (hv : v < (r : Int)) :
    FL (wr.setCell ⟨w.heap.size, r * 16 + j, none⟩ (.bool true)) w.heap.size (r * 16) (FF R (A.take (k + 1)) r) ∧
    (f < (ct (FF R (A.take (k + 1)) r) 16 : Nat) → Bi w (wr.setCell ⟨w.heap.size, r * 16 + j, none⟩ (.bool true)) R A f fr (k + 1) r) ∧
    (¬ f < (ct (FF R (A.take (k + 1)) r) 16 : Nat) → Bi w (wr.setCell ⟨w.heap.size, r * 16 + j, none⟩ (.bool true)) R A f fr (k + 1) v) := by
  have nn := h.nn
  have yes := ff_step_yes hk hR h1 h2
  have no : ∀ r2 : Int, r2 ≠ r → ∀ i, FF R (A.take (k + 1)) r2 i = FF R (A.take k) r2 i := fun r2 hne i => ff_step_no hk (.inr (by rw [h1]; exact fun e => hne e.symm)) i
  have hF : FL (wr.setCell ⟨w.heap.size, r * 16 + j, none⟩ (.bool true)) w.heap.size (r * 16) (FF R (A.take (k + 1)) r) := ((h.FM r hr hv hf).up j).congr fun i _ => (yes i).symm
  have hO : ∀ r2 : Nat, r2 < 1001 → v < (r2 : Int) → fr ≤ (r2 : Int) → r2 ≠ r → FL (wr.setCell ⟨w.heap.size, r * 16 + j, none⟩ (.bool true)) w.heap.size (r2 * 16) (FF R (A.take (k + 1)) r2) := fun r2 a1 a2 a3 hne =>
    ((h.FM r2 a1 a2 a3).other (p := 0) (.inr (.inr trivial)) _ (by omega) _).congr fun i _ => (no r2 (by omega) i).symm
  have hB := h.BB.setCell (p := ⟨w.heap.size, r * 16 + j, none⟩) (Nat.le_refl _) (.bool true)
  have hg : w.heap.size < (wr.setCell ⟨w.heap.size, r * 16 + j, none⟩ (.bool true)).heap.size := by simpa using h.hg
  refine ⟨hF, fun hc => ⟨fun r2 a1 a2 a3 => hO r2 a1 (by omega) a3 (by omega), .inr ⟨by omega, hf, ?_⟩, fun r2 a0 a1 a2 => ?_, hB, hg⟩, fun hc => ⟨fun r2 a1 a2 a3 => ?_, h.v0, fun r2 a0 a1 a2 => ?_, hB, hg⟩⟩
  · have : ct (FF R (A.take (k + 1)) (r : Int)) 16 ≤ ct (FF R A (r : Int)) 16 := ct_mono fun i hi => ff_take_mono i hi
    omega
  · by_cases e : r2 = r
    · omega
    · rw [ct_congr fun i _ => no r2 e i] at a2
      have := h.low r2 a0 a1 a2
      omega
  · by_cases e : r2 = r
    · subst e; exact hF
    · exact hO r2 a1 a2 a3 e
  · by_cases e : r2 = r
    · subst e; exact absurd a2 hc
    · rw [ct_congr fun i _ => no r2 e i] at a2
      exact h.low r2 a0 a1 a2

def isF : Value → Bool
  | .bool b => !b
  | _ => false
def allF : List Value → Bool
  | [] => true
  | v :: l => match isF v with
    | true => allF l
    | false => false
theorem allF_mem {l : List Value} (h : allF l = true) : ∀ v ∈ l, v = .bool false := by
  induction l with
  | nil => intro v hv; cases hv
  | cons x l ih =>
    unfold allF at h
    cases hx : isF x with
    | false => rw [hx] at h; cases h
    | true =>
      rw [hx] at h
      intro v hv
      rcases List.mem_cons.1 hv with rfl | hv
      · unfold isF at hx
        split at hx
        · rename_i b; cases b
          · rfl
          · cases hx
        · cases hx
      · exact ih h v hv
set_option maxRecDepth 1000000 in
theorem zc65_all : allF Try.zeroCells65.toList = true := by kernel_rfl
theorem zc65 (k : Nat) (hk : k < 16016) : Try.zeroCells65[k]? = some (.bool false) := by
  have h : k < Try.zeroCells65.size := by rw [Try.zeroCells65_size]; exact hk
  rw [Array.getElem?_eq_getElem h]
  congr 1
  exact allF_mem zc65_all _ (by rw [Array.mem_toList_iff]; exact Array.getElem_mem h)
theorem Bi.start (w : World) (R : S3 → Bool) (A : List S3) (f fr : Int) (hf : 0 ≤ f) (t : TypeId) : Bi w (w.alloc (.cells Try.zeroCells65 t)) R A f fr 0 0 := by
  refine ⟨fun r h1 h2 h3 k hk => ?_, .inl rfl, fun r h1 h2 h3 => ?_, (Below.refl _ _).alloc (Nat.le_refl _) _, by simp⟩
  · have e : FF R (A.take 0) r k = false := by rw [List.take_zero]; rfl
    rw [e]
    have hz := zc65 (r * 16 + k) (by omega)
    have R := Room.new w Try.zeroCells65.toList t
    exact R (r * 16 + k) (.bool false) (by rw [Array.getElem?_toList]; exact hz)
  · rw [ct_none fun j _ => by rw [List.take_zero]; rfl] at h3
    omega
theorem br_neg {zs : List Int} {nk : Nat} {f : Int} {A : List S3} {fr : Int} (hf : f < 0) : BR zs nk f A fr = 0 := by
  rcases BR_ok zs nk f A fr with h | ⟨_, h⟩
  · exact h
  · have := (PO_iff.1 h).1
    omega

set_option maxHeartbeats 8000000 in
set_option maxRecDepth 100000 in
theorem i_BestRound (ak : Option Addr) (nk ck : Nat) (zs : List Int) (f : Int) (a : Option Addr) (n ca : Nat) (A : List S3) (fr : Int) (w : World) (hk : Row w w.heap.size ak nk zs) (hnk : nk ≤ 1048576) (ha : Row3 w w.heap.size a n A) (hn : n ≤ 1048576) :
    Calls Try.prog 19 #[.slice ak nk ck, .int .i64 f, .slice a n ca, .int .i64 fr] w fun e w' => e = .returned (.int .i64 (BR zs nk f A fr)) ∧ Below w.heap.size w w' := by
  have lA : A.length = n := ha.1
  by_cases hf : f < 0
  · have hf2 : ¬ 0 ≤ f := by omega
    have HE : Hid (BR zs nk f A fr = 0) := br_neg hf
    clear hf2
    go_enter Try.func19, Try.ntmps19
    go_wp2
    go_ret
    exact ⟨by rw [HE.out]; rfl, Below.refl _ _⟩
  · go_enter Try.func19, Try.ntmps19
    have O0 := Bi.start w (RT zs nk) A f fr (by omega) 65
    have hf2 : ¬ f < 0 := hf
    go_wp2_with fail
    go_loopw [9, 17] (fun p q wr => ∃ (k : Nat) (v : Int), k ≤ n ∧ p = .int .i64 v ∧ q = .int .i64 (k : Int) ∧ Hid (Bi w wr (RT zs nk) A f fr k v)) (fun _ q _ => n - (intOf q).toNat)
    case atStart => exact ⟨0, 0, Nat.zero_le _, rfl, rfl, O0⟩
    case round =>
      clear O0
      obtain ⟨k, v, hkn, rfl, rfl, HH⟩ := hrel
      by_cases hlt : k < n
      · have hi : (k : Int) < n := by omega
        have hkA : k < A.length := by omega
        have BB := HH.out.BB
        obtain ⟨q, hq⟩ : ∃ q, q = wr.heap.size := ⟨_, rfl⟩
        have HQ : Hid (q = wr.heap.size) := hq
        obtain ⟨_, hz | ⟨bb, off, rfl, hB, hc⟩⟩ := ha
        · omega
        obtain ⟨q0, q1, q2⟩ := hc k hlt
        clear hc
        have e0 := (BB.cell (p := ⟨bb, off + k * 3, none⟩) hB).trans q0
        have e1 := (BB.cell (p := ⟨bb, off + k * 3 + 1, none⟩) hB).trans q1
        have e2 := (BB.cell (p := ⟨bb, off + k * 3 + 2, none⟩) hB).trans q2
        clear q0 q1 q2
        have hbl : bb < wr.heap.size := by have := BB.size; omega
        have hn1 : ¬ (bb = wr.heap.size) := by omega
        have hn2 : ¬ (wr.heap.size = bb) := by omega
        have hqg : q ≠ w.heap.size := by have := HH.out.hg; omega
        have BI : Bi w (wr.alloc (.cells (c3 (es A k)).toArray 32)) (RT zs nk) A f fr k v := HH.out.below ((Below.refl _ _).alloc (Nat.le_refl _) _)
        have RX := Room.at wr (c3 (es A k)) 32 q hq
        clear hq BB HH
        have HS : Hid (∀ wr, Bi w wr (RT zs nk) A f fr k v → ((es A k).1 < fr ∨ (es A k).1 ≤ v ∨ SR zs nk (es A k).1 (es A k).2.1 (es A k).2.2 = false) → Bi w wr (RT zs nk) A f fr (k + 1) v) := fun wr h q => h.skip hkA q
        have HM : Hid (∀ (wr : World) (r j : Nat), Bi w wr (RT zs nk) A f fr k v → SR zs nk (es A k).1 (es A k).2.1 (es A k).2.2 = true → (es A k).1 = (r : Int) → (es A k).2.1 = (j : Int) → r < 1001 → j < 16 → fr ≤ (r : Int) → v < (r : Int) →
          FL (wr.setCell ⟨w.heap.size, r * 16 + j, none⟩ (.bool true)) w.heap.size (r * 16) (FF (RT zs nk) (A.take (k + 1)) r) ∧
          (f < (ct (FF (RT zs nk) (A.take (k + 1)) r) 16 : Nat) → Bi w (wr.setCell ⟨w.heap.size, r * 16 + j, none⟩ (.bool true)) (RT zs nk) A f fr (k + 1) r) ∧
          (¬ f < (ct (FF (RT zs nk) (A.take (k + 1)) r) 16 : Nat) → Bi w (wr.setCell ⟨w.heap.size, r * 16 + j, none⟩ (.bool true)) (RT zs nk) A f fr (k + 1) v)) := fun wr r j h hR h1 h2 hr hj hf hv => h.mark hkA hR h1 h2 hr hj hf hv
        obtain ⟨x, hx⟩ : ∃ x, x = (es A k) := ⟨_, rfl⟩
        rw [← hx] at BI RX HS HM e0 e1 e2
        clear hx hkA
        by_cases h1 : x.1 < fr
        · have HN : Hid (Bi w (wr.alloc (.cells (c3 x).toArray 32)) (RT zs nk) A f fr (k + 1) v) := HS.out _ BI (.inl h1)
          clear BI RX HS HM
          go_wp2
          go_roundw
          case rel => exact ⟨k + 1, v, by omega, rfl, by go_num, HN⟩
          case measure => simp [intOf]; omega
        · by_cases h2 : x.1 ≤ v
          · have HN : Hid (Bi w (wr.alloc (.cells (c3 x).toArray 32)) (RT zs nk) A f fr (k + 1) v) := HS.out _ BI (.inr (.inl h2))
            clear BI RX HS HM
            go_wp2
            go_roundw
            case rel => exact ⟨k + 1, v, by omega, rfl, by go_num, HN⟩
            case measure => simp [intOf]; omega
          · go_wp2_with fail
            rw [← HQ.out]
            have hX : (wr.alloc (.cells (c3 x).toArray 32)) = (wr.alloc (.cells #[.int .i64 x.1, .int .i64 x.2.1, .int .i64 x.2.2] 32)) := rfl
            rw [hX] at BI RX
            generalize wr.alloc (.cells #[.int .i64 x.1, .int .i64 x.2.1, .int .i64 x.2.2] 32) = wS at BI RX ⊢
            clear e0 e1 e2 HQ hbl hn1 hn2 hX
            refine (Sl.i_SealRight _ nk ck zs x.1 x.2.1 x.2.2 _ ((hk.later BI.BB (Nat.le_refl _)).more BI.BB.size) hnk).mono ?_
            rintro e w4 ⟨rfl, b4⟩
            replace BI := BI.below b4
            replace RX := RX.below b4
            clear b4
            cases hR : SR zs nk x.1 x.2.1 x.2.2 with
            | false =>
              have HN : Hid (Bi w w4 (RT zs nk) A f fr (k + 1) v) := HS.out _ BI (.inr (.inr hR))
              clear hR BI HS HM
              go_wp2
              go_roundw
              case rel => exact ⟨k + 1, v, by omega, rfl, by go_num, HN⟩
              case measure => simp [intOf]; omega
            | true =>
              obtain ⟨j, hj, hj16⟩ := rt_flag (zs := zs) (nk := nk) (x := x) hR
              have hrr := (rt_of (zs := zs) (n := nk) (s := x) hR).2.1
              obtain ⟨r, hr⟩ : ∃ r : Nat, x.1 = (r : Int) := ⟨x.1.toNat, by omega⟩
              have hr1 : r < 1001 := by omega
              obtain ⟨l1, l2, l3⟩ := HM.out w4 r j BI hR hr hj hr1 hj16 (by omega) (by omega)
              have m1 : FL (w4.setCell ⟨w.heap.size, r * 16 + j, none⟩ (.bool true)).drew w.heap.size (r * 16) (FF (RT zs nk) (A.take (k + 1)) r) := l1
              have m2 : f < (ct (FF (RT zs nk) (A.take (k + 1)) r) 16 : Nat) → Bi w (w4.setCell ⟨w.heap.size, r * 16 + j, none⟩ (.bool true)).drew (RT zs nk) A f fr (k + 1) r := fun h => (l2 h).below (Below.refl _ _).drew
              have m3 : ¬ f < (ct (FF (RT zs nk) (A.take (k + 1)) r) 16 : Nat) → Bi w (w4.setCell ⟨w.heap.size, r * 16 + j, none⟩ (.bool true)).drew (RT zs nk) A f fr (k + 1) v := fun h => (l3 (by omega)).below (Below.refl _ _).drew
              clear l1 l2 l3
              have x0 := RX.cell 0 rfl
              have x1 := RX.cell 1 rfl
              rw [hr] at x0
              rw [hj] at x1
              have y0 := (RX.setOther (q := w.heap.size) (fun e => hqg e.symm) (r * 16 + j) (.bool true)).drew.cell 0 rfl
              rw [hr] at y0
              obtain ⟨c0, c1⟩ := BI.FM r hr1 (by omega) (by omega) j hj16
              have hi1 : (r : Int) < 1001 := by omega
              have hi16 : (j : Int) < 16 := by omega
              generalize FF (RT zs nk) (A.take k) r j = c00 at c0
              clear hR hj HM HS BI hrr
              go_wp2_with fail
              go_region
              clear x0 x1 c0 c1
              generalize (w4.setCell ⟨w.heap.size, r * 16 + j, none⟩ (.bool true)).drew = wM at m1 m2 m3 y0 ⊢
              go_wp2_with fail
              refine (i_count w.heap.size (r * 16) _ wM m1).mono ?_
              rintro e w6 ⟨rfl, rfl⟩
              generalize ct (FF (RT zs nk) (A.take (k + 1)) r) 16 = c at m2 m3 ⊢
              by_cases hc : f < (c : Int)
              · have HN : Hid (Bi w w6 (RT zs nk) A f fr (k + 1) r) := m2 hc
                clear m1 m2 m3
                go_wp2
                go_roundw
                case rel => exact ⟨k + 1, r, by omega, rfl, by go_num, HN⟩
                case measure => simp [intOf]; omega
              · have HN : Hid (Bi w w6 (RT zs nk) A f fr (k + 1) v) := m3 (by omega)
                clear m1 m2 m3
                go_wp2
                go_roundw
                case rel => exact ⟨k + 1, v, by omega, rfl, by go_num, HN⟩
                case measure => simp [intOf]; omega
      · have hi : ¬ (k : Int) < n := by omega
        obtain rfl : k = n := by omega
        have HE : Hid (BR zs nk f A fr = v) := br_of (by omega) HH.out.v0 (fun r a b c => HH.out.low r a b (by rw [← lA, List.take_length]; exact c))
        go_wp2
        go_ret
        exact ⟨by rw [HE.out]; rfl, HH.out.BB⟩

end Go.Proofs.Ytdjeffjjijkhbaa.Mi
