/-
  A peer, a parcel: right or not (spec.l12Peer, l12Parcel), at whatever arguments.
-/
import Derived.Test.YtimakfokgcnklaaGreatCs2
import Derived.Test.YtimakfokgcnklaaGreatTk
namespace Go.Proofs.YtimakfokgcnklaaGreat.Cd
open Go.ChangeShapes Go.WideShapes Go.ChangeAt Go.RowKit
open Ls (el Row)
open Rm (Room)
open Rd (Flags)
open Sb (S3 es es_ext fl sl Row3 SHas)
open Ns
open Mg (MG RT)
open Sl (KO lk_yes lk_no SR)
open Sp (LK retb)
set_option linter.unusedVariables false
set_option linter.unusedSimpArgs false

theorem l5OffS (x : Int) (w : World) : Calls Tryz.prog 107 #[.int .i64 x] w fun e w' => e = .returned (.bool (!LK (-1000000000000000) 1000000000000000 x)) ∧ w' = w := by
  go_enter Tryz.func107, Tryz.ntmps107
  go_wp2_with fail
  refine (Sp.s_l1In (-1000000000000000) 1000000000000000 x _).mono ?_
  rintro e w1 ⟨rfl, rfl⟩
  go_wp2
  go_ret
  exact ⟨rfl, rfl⟩
theorem lk_iff {lo hi n : Int} : LK lo hi n = false ↔ (lo ≤ n ∧ n ≤ hi) := by
  constructor
  · intro h
    by_cases q : lo ≤ n ∧ n ≤ hi
    · exact q
    · rw [lk_no q] at h; cases h
  · exact lk_yes
/-- Each one's round is from lo to lo and 2. -/
def AR (lo : Int) (ss : List S3) (k : Nat) : Prop := ∀ i, i < k → lo ≤ (es ss i).1 ∧ (es ss i).1 ≤ lo + 2
instance (lo : Int) (ss : List S3) (k : Nat) : Decidable (AR lo ss k) := by unfold AR; infer_instance
/-- A right peer. -/
def PK (zs : List Int) (p : PD) : Bool := (decide (-1000000000000000 ≤ p.1 ∧ p.1 ≤ 1000000000000000) && decide (1 ≤ p.2.1 ∧ p.2.1 ≤ 1000)) && (decide (AR p.2.1 p.2.2.2 p.2.2.2.length) && MD zs p.2.2.2)
theorem pk_next {zs : List Int} {p : PD} (h : ¬ (1 ≤ p.2.1 ∧ p.2.1 ≤ 1000)) : PK zs p = false := by unfold PK; rw [decide_eq_false h]; simp
theorem pk_off {zs : List Int} {p : PD} (h : ¬ (-1000000000000000 ≤ p.1 ∧ p.1 ≤ 1000000000000000)) : PK zs p = false := by unfold PK; rw [decide_eq_false h]; simp
theorem pk_ar {zs : List Int} {p : PD} (h : ¬ AR p.2.1 p.2.2.2 p.2.2.2.length) : PK zs p = false := by unfold PK; rw [decide_eq_false h]; simp
theorem pk_md {zs : List Int} {p : PD} (h1 : 1 ≤ p.2.1 ∧ p.2.1 ≤ 1000) (h2 : -1000000000000000 ≤ p.1 ∧ p.1 ≤ 1000000000000000) (h3 : AR p.2.1 p.2.2.2 p.2.2.2.length) : PK zs p = MD zs p.2.2.2 := by unfold PK; rw [decide_eq_true h1, decide_eq_true h2, decide_eq_true h3]; rfl

set_option maxHeartbeats 8000000 in
theorem peerS (c : CD) (aK : Option Addr) (cK : Nat) (L P Q M F : Value) (x y : Int) (z : Bool) (aS : Option Addr) (cS : Nat) (S : List S3) (w : World) (hK : Row w w.heap.size aK c.zs.length c.zs) (hnK : c.zs.length ≤ 1048576) (hS : Row3 w w.heap.size aS S.length S) (hnS : S.length ≤ 1048576) :
    Calls Tryz.prog 64 #[.agg #[.int .i64 c.n, .int .i64 c.f, .int .i64 c.p, .int .i64 c.a, .int .i64 c.l, .int .i64 c.m, .slice aK c.zs.length cK, L, P, Q, .int .i64 c.now, M, F], .agg #[.int .i64 x, .int .i64 y, .bool z, .slice aS S.length cS]] w fun e w' => e = .returned (.bool (PK c.zs (x, y, z, S))) ∧ Below w.heap.size w w' := by
  have BB : Below w.heap.size w ((w.alloc (.cells #[.int .i64 c.n, .int .i64 c.f, .int .i64 c.p, .int .i64 c.a, .int .i64 c.l, .int .i64 c.m, .slice aK c.zs.length cK, L, P, Q, .int .i64 c.now, M, F] 35)).alloc (.cells #[.int .i64 x, .int .i64 y, .bool z, .slice aS S.length cS] 44)) := ((Below.refl w.heap.size w).alloc (Nat.le_refl _) _).alloc (by simp) _
  have RX := (Room.new w [.int .i64 c.n, .int .i64 c.f, .int .i64 c.p, .int .i64 c.a, .int .i64 c.l, .int .i64 c.m, .slice aK c.zs.length cK, L, P, Q, .int .i64 c.now, M, F] 35).alloc (.cells #[.int .i64 x, .int .i64 y, .bool z, .slice aS S.length cS] 44)
  have RY := Room.at (w.alloc (.cells #[.int .i64 c.n, .int .i64 c.f, .int .i64 c.p, .int .i64 c.a, .int .i64 c.l, .int .i64 c.m, .slice aK c.zs.length cK, L, P, Q, .int .i64 c.now, M, F] 35)) [.int .i64 x, .int .i64 y, .bool z, .slice aS S.length cS] 44 (w.heap.size + 1) (by simp)
  obtain ⟨xx, hxx⟩ : ∃ xx, xx = IntKind.i64.wrap (y + 2) := ⟨_, rfl⟩
  have hw : IntKind.i64.wrap (y + 2) = xx := hxx.symm
  have HX : Hid (1 ≤ y ∧ y ≤ 1000 → xx = y + 2) := fun h => by rw [hxx, IntKind.wrap_i64]; omega
  clear hxx
  go_enter Tryz.func64, Tryz.ntmps64
  go_wp2_with fail
  generalize (w.alloc (.cells #[.int .i64 c.n, .int .i64 c.f, .int .i64 c.p, .int .i64 c.a, .int .i64 c.l, .int .i64 c.m, .slice aK c.zs.length cK, L, P, Q, .int .i64 c.now, M, F] 35)).alloc (.cells #[.int .i64 x, .int .i64 y, .bool z, .slice aS S.length cS] 44) = w1 at BB RX RY ⊢
  have y1 := RY.cell 1 rfl
  have y3 := RY.cell 3 rfl
  go_loopw [5] (fun q wr => ∃ k : Nat, k ≤ S.length ∧ q = .int .i64 (k : Int) ∧ Hid (Below w.heap.size w wr ∧ Room wr w.heap.size [.int .i64 c.n, .int .i64 c.f, .int .i64 c.p, .int .i64 c.a, .int .i64 c.l, .int .i64 c.m, .slice aK c.zs.length cK, L, P, Q, .int .i64 c.now, M, F] ∧ Room wr (w.heap.size + 1) [.int .i64 x, .int .i64 y, .bool z, .slice aS S.length cS] ∧ (1 ≤ y ∧ y ≤ 1000 → AR y S k))) (fun q _ => S.length - (intOf q).toNat)
  case atStart => exact ⟨0, Nat.zero_le _, rfl, ⟨BB, RX, RY, fun _ i hi => by omega⟩⟩
  case round =>
    clear BB RX RY y1 y3
    obtain ⟨k, hk, rfl, HH⟩ := hrel
    have p1 := HH.out.2.2.1.cell 1 rfl
    have p3 := HH.out.2.2.1.cell 3 rfl
    by_cases hlt : k < S.length
    · have hi : (k : Int) < (S.length : Int) := by omega
      obtain ⟨_, hz | ⟨b, off, rfl, hb, hc⟩⟩ := hS
      · omega
      have e0 := (hc k hlt).1
      rw [← HH.out.1.cell (p := ⟨b, off + k * 3, none⟩) hb] at e0
      clear hc
      have HT : Hid (LK y xx (es S k).1 = true → PK c.zs (x, y, z, S) = false) := fun hq => by
        by_cases hr : 1 ≤ y ∧ y ≤ 1000
        · rw [HX.out hr] at hq
          refine pk_ar fun h => ?_
          have := h k hlt
          rw [lk_yes (this)] at hq
          cases hq
        · exact pk_next hr
      have HF : Hid (LK y xx (es S k).1 = false → (1 ≤ y ∧ y ≤ 1000 → AR y S (k + 1))) := fun hq hr i hi => by
        rw [HX.out hr] at hq
        by_cases e : i = k
        · subst e; exact lk_iff.1 hq
        · exact HH.out.2.2.2 hr i (by omega)
      go_wp2_with fail
      refine wp_region_noPanic ?_
      refine wp_region_held_drew (S := (fun w' => w'.cell? ⟨w.heap.size + 1, 1, none⟩ = some (.int .i64 y) ∧ w'.cell? ⟨w.heap.size + 1, 3, none⟩ = some (.slice (some ⟨b, off, none⟩) S.length cS) ∧ w'.cell? ⟨b, off + k * 3, none⟩ = some (.int .i64 (es S k).1) ∧ Hid (w' = wr.drew))) (by kernel_rfl) ⟨p1, p3, e0, rfl⟩ (fun hHeld => ?_)
      refine Tk.W 0 (some 13) (.fieldAddr 44 (.tmp 3) 3) 0 none ?_
      refine Tk.W 1 (some 14) (.load 32 (.tmp 13)) 32 none ?_
      refine Tk.W 2 (some 15) (.move (.tmp 5)) 3 none ?_
      refine Tk.W 3 (some 16) (.indexAddr 32 (.tmp 14) (.tmp 15)) 0 none ?_
      refine Tk.W 4 (some 17) (.fieldAddr 125 (.tmp 16) 0) 0 none ?_
      refine Tk.W 5 (some 18) (.load 2 (.tmp 17)) 2 none ?_
      refine Tk.W 6 (some 19) (.fieldAddr 44 (.tmp 3) 1) 0 none ?_
      refine Tk.W 7 (some 20) (.load 2 (.tmp 19)) 2 none ?_
      refine Tk.W 8 (some 21) (.fieldAddr 44 (.tmp 3) 1) 0 none ?_
      refine Tk.W 9 (some 22) (.load 2 (.tmp 21)) 2 none ?_
      refine Tk.W 10 (some 23) (.binOp .add 2 (.tmp 22) (.const (.int .i64 2)) 2) 2 none ?_
      refine Tk.R 11 (some 24) (.call ⟨.value (.func 48), #[.tmp 18, .tmp 20, .tmp 23], #[2, 2, 2]⟩) 4 none (fun K hK => ?_)
      go_simp
      refine (Sp.s_l1In y xx (es S k).1 _).mono ?_
      rintro e wv ⟨rfl, rfl⟩
      try dsimp only
      refine hK.out _ _ hHeld ?_; clear hK K hHeld; intro hHeld; try simp only [Act.put, List.setIfInBounds_toArray, List.set_cons_zero, List.set_cons_succ]
      refine Tk.W 12 (some 25) (.unOp .not 4 (.tmp 24)) 4 none ?_
      refine wpAnyH_done (by kernel_rfl) ?_ _
      refine NoPanic.normal ?_
      clear hHeld
      cases hq : LK y xx (es S k).1 with
      | true =>
        have HV : Hid (PK c.zs (x, y, z, S) = false) := HT.out hq
        clear hq
        go_wp2
        go_ret
        exact ⟨retb HV.out.symm, HH.out.1.drew⟩
      | false =>
        have HN := HF.out hq
        clear hq
        go_wp2
        go_roundw
        case rel => exact ⟨k + 1, by omega, by go_num, ⟨HH.out.1.drew, HH.out.2.1.drew, HH.out.2.2.1.drew, HN⟩⟩
        case measure => simp [intOf]; omega
    · have hi : ¬ (k : Int) < (S.length : Int) := by omega
      obtain rfl : k = S.length := by omega
      have p0 := HH.out.2.2.1.cell 0 rfl
      have s6 := HH.out.2.1.cell 6 rfl
      by_cases h2 : -1000000000000000 ≤ x ∧ x ≤ 1000000000000000
      · by_cases h1 : 1 ≤ y ∧ y ≤ 1000
        · have HV : Hid (PK c.zs (x, y, z, S) = MD c.zs S) := pk_md h1 h2 (HH.out.2.2.2 h1)
          go_wp2_with fail
          refine (l5OffS x _).mono ?_
          rintro e w2 ⟨rfl, rfl⟩
          rw [lk_yes h2]
          go_wp2_with fail
          refine (Sp.s_l1In 1 1000 y _).mono ?_
          rintro e w2 ⟨rfl, rfl⟩
          rw [lk_yes h1]
          go_wp2_with fail
          refine (mergedS aK cK c.zs aS S.length cS S _ ((hK.later HH.out.1 (Nat.le_refl _)).more HH.out.1.size) hnK (hS.below HH.out.1) hnS).mono ?_
          rintro e w2 ⟨rfl, b2⟩
          rw [← HV.out]
          go_wp2
          go_ret
          exact ⟨rfl, HH.out.1.trans (b2.mono HH.out.1.size)⟩
        · have HV : Hid (PK c.zs (x, y, z, S) = false) := pk_next h1
          go_wp2_with fail
          refine (l5OffS x _).mono ?_
          rintro e w2 ⟨rfl, rfl⟩
          rw [lk_yes h2]
          go_wp2_with fail
          refine (Sp.s_l1In 1 1000 y _).mono ?_
          rintro e w2 ⟨rfl, rfl⟩
          rw [lk_no h1]
          clear h1
          go_wp2
          go_ret
          exact ⟨retb HV.out.symm, HH.out.1⟩
      · have HV : Hid (PK c.zs (x, y, z, S) = false) := pk_off h2
        go_wp2_with fail
        refine (l5OffS x _).mono ?_
        rintro e w2 ⟨rfl, rfl⟩
        rw [lk_no h2]
        clear h2
        go_wp2
        go_ret
        exact ⟨retb HV.out.symm, HH.out.1⟩

/-- The first ones are right. -/
def AT (zs : List Int) (ss : List S3) (k : Nat) : Prop := ∀ i, i < k → RT zs zs.length (es ss i) = true
instance (zs : List Int) (ss : List S3) (k : Nat) : Decidable (AT zs ss k) := by unfold AT; infer_instance
/-- A right parcel. -/
def QK (c : CD) (q : QD) : Bool := decide (AT c.zs q.2.2 q.2.2.length) && (decide (c.now + 1 ≤ q.1 ∧ q.1 ≤ c.now + c.m) && (HO c.bs q.2.1 && decide (q.2.2.length ≤ 48)))
theorem qk_at {c : CD} {q : QD} (h : ¬ AT c.zs q.2.2 q.2.2.length) : QK c q = false := by unfold QK; rw [decide_eq_false h]; rfl
theorem qk_due {c : CD} {q : QD} (h : ¬ (c.now + 1 ≤ q.1 ∧ q.1 ≤ c.now + c.m)) : QK c q = false := by unfold QK; rw [decide_eq_false h]; simp
theorem qk_to {c : CD} {q : QD} (h : HO c.bs q.2.1 = false) : QK c q = false := by unfold QK; rw [h]; simp
theorem qk_len {c : CD} {q : QD} (h1 : AT c.zs q.2.2 q.2.2.length) (h2 : c.now + 1 ≤ q.1 ∧ q.1 ≤ c.now + c.m) (h3 : HO c.bs q.2.1 = true) : QK c q = decide (q.2.2.length ≤ 48) := by unfold QK; rw [decide_eq_true h1, decide_eq_true h2, h3]; rfl
structure Pb (w w' : World) (cs qs : List Value) : Prop where
  B : Below w.heap.size w w'
  X : Room w' w.heap.size cs
  Y : Room w' (w.heap.size + 1) qs
theorem Pb.below {w w' w2 : World} {cs qs : List Value} (h : Pb w w' cs qs) (b : Below w'.heap.size w' w2) : Pb w w2 cs qs := ⟨h.B.trans (b.mono h.B.size), h.X.below b, h.Y.below b⟩

set_option maxHeartbeats 8000000 in
theorem parcelS (c : CD) (aK aL : Option Addr) (cK cL : Nat) (P Q M F : Value) (x y : Int) (aS : Option Addr) (cS : Nat) (S : List S3) (w : World) (hKy : Row w w.heap.size aK c.zs.length c.zs) (hnK : c.zs.length ≤ 1048576) (hL : Flags w w.heap.size aL c.bs.length c.bs) (hnL : c.bs.length ≤ 1048576) (hS : Row3 w w.heap.size aS S.length S) (hnS : S.length ≤ 1048576) (hnow : 0 ≤ c.now ∧ c.now ≤ 100000) (hm : 1 ≤ c.m ∧ c.m ≤ 1000) :
    Calls Tryz.prog 65 #[.agg #[.int .i64 c.n, .int .i64 c.f, .int .i64 c.p, .int .i64 c.a, .int .i64 c.l, .int .i64 c.m, .slice aK c.zs.length cK, .slice aL c.bs.length cL, P, Q, .int .i64 c.now, M, F], .agg #[.int .i64 x, .int .i64 y, .slice aS S.length cS]] w fun e w' => e = .returned (.bool (QK c (x, y, S))) ∧ Below w.heap.size w w' := by
  have PB : Pb w ((w.alloc (.cells #[.int .i64 c.n, .int .i64 c.f, .int .i64 c.p, .int .i64 c.a, .int .i64 c.l, .int .i64 c.m, .slice aK c.zs.length cK, .slice aL c.bs.length cL, P, Q, .int .i64 c.now, M, F] 35)).alloc (.cells #[.int .i64 x, .int .i64 y, .slice aS S.length cS] 96)) [.int .i64 c.n, .int .i64 c.f, .int .i64 c.p, .int .i64 c.a, .int .i64 c.l, .int .i64 c.m, .slice aK c.zs.length cK, .slice aL c.bs.length cL, P, Q, .int .i64 c.now, M, F] [.int .i64 x, .int .i64 y, .slice aS S.length cS] := ⟨((Below.refl w.heap.size w).alloc (Nat.le_refl _) _).alloc (by simp) _, (Room.new w [.int .i64 c.n, .int .i64 c.f, .int .i64 c.p, .int .i64 c.a, .int .i64 c.l, .int .i64 c.m, .slice aK c.zs.length cK, .slice aL c.bs.length cL, P, Q, .int .i64 c.now, M, F] 35).alloc _, Room.at _ [.int .i64 x, .int .i64 y, .slice aS S.length cS] 96 (w.heap.size + 1) (by simp)⟩
  have hw1 : IntKind.i64.wrap (c.now + 1) = c.now + 1 := by rw [IntKind.wrap_i64]; omega
  have hw2 : IntKind.i64.wrap (c.now + c.m) = c.now + c.m := by rw [IntKind.wrap_i64]; omega
  go_enter Tryz.func65, Tryz.ntmps65
  go_wp2_with fail
  generalize (w.alloc (.cells #[.int .i64 c.n, .int .i64 c.f, .int .i64 c.p, .int .i64 c.a, .int .i64 c.l, .int .i64 c.m, .slice aK c.zs.length cK, .slice aL c.bs.length cL, P, Q, .int .i64 c.now, M, F] 35)).alloc (.cells #[.int .i64 x, .int .i64 y, .slice aS S.length cS] 96) = w1 at PB ⊢
  have y2 := PB.Y.cell 2 rfl
  go_loopw [5] (fun q wr => ∃ k : Nat, k ≤ S.length ∧ q = .int .i64 (k : Int) ∧ Hid (Pb w wr [.int .i64 c.n, .int .i64 c.f, .int .i64 c.p, .int .i64 c.a, .int .i64 c.l, .int .i64 c.m, .slice aK c.zs.length cK, .slice aL c.bs.length cL, P, Q, .int .i64 c.now, M, F] [.int .i64 x, .int .i64 y, .slice aS S.length cS] ∧ AT c.zs S k)) (fun q _ => S.length - (intOf q).toNat)
  case atStart => exact ⟨0, Nat.zero_le _, rfl, ⟨PB, fun i hi => by omega⟩⟩
  case round =>
    clear PB y2
    obtain ⟨k, hk, rfl, HH⟩ := hrel
    have p2 := HH.out.1.Y.cell 2 rfl
    by_cases hlt : k < S.length
    · have hi : (k : Int) < (S.length : Int) := by omega
      obtain ⟨_, hz | ⟨b, off, rfl, hb, hc⟩⟩ := hS
      · omega
      have HC : Hid (∀ w', Below w.heap.size w w' → w'.cell? ⟨b, off + k * 3, none⟩ = some (.int .i64 (es S k).1) ∧ w'.cell? ⟨b, off + k * 3 + 1, none⟩ = some (.int .i64 (es S k).2.1) ∧ w'.cell? ⟨b, off + k * 3 + 2, none⟩ = some (.int .i64 (es S k).2.2)) := fun w' B => by
        have q : ∀ o, w'.cell? ⟨b, o, none⟩ = w.cell? ⟨b, o, none⟩ := fun o => B.cell (p := ⟨b, o, none⟩) hb
        simp only [q]
        exact hc k hlt
      clear hc
      have HT : Hid (SR c.zs c.zs.length (es S k).1 (es S k).2.1 (es S k).2.2 = false → QK c (x, y, S) = false) := fun hq => qk_at fun h => by have := h k hlt; unfold Mg.RT at this; rw [hq] at this; cases this
      have HF : Hid (SR c.zs c.zs.length (es S k).1 (es S k).2.1 (es S k).2.2 = true → AT c.zs S (k + 1)) := fun hq i hi => by
        by_cases e : i = k
        · subst e; exact hq
        · exact HH.out.2 i (by omega)
      have PB := HH.out.1.below (Below.refl _ _).drew
      clear HH
      go_wp2_with fail
      clear p2
      refine wp_region_noPanic ?_
      refine wp_region_held_drew (S := (fun w' => (w'.cell? ⟨w.heap.size, 6, none⟩ = some (.slice aK c.zs.length cK) ∧ w'.cell? ⟨w.heap.size + 1, 2, none⟩ = some (.slice (some ⟨b, off, none⟩) S.length cS) ∧ w'.cell? ⟨b, off + k * 3, none⟩ = some (.int .i64 (es S k).1) ∧ w'.cell? ⟨b, off + k * 3 + 1, none⟩ = some (.int .i64 (es S k).2.1) ∧ w'.cell? ⟨b, off + k * 3 + 2, none⟩ = some (.int .i64 (es S k).2.2)) ∧ Hid (Pb w w' [.int .i64 c.n, .int .i64 c.f, .int .i64 c.p, .int .i64 c.a, .int .i64 c.l, .int .i64 c.m, .slice aK c.zs.length cK, .slice aL c.bs.length cL, P, Q, .int .i64 c.now, M, F] [.int .i64 x, .int .i64 y, .slice (some ⟨b, off, none⟩) S.length cS]))) (by kernel_rfl) ⟨⟨PB.X.cell 6 rfl, PB.Y.cell 2 rfl, HC.out _ PB.B⟩, PB⟩ (fun hHeld => ?_)
      refine Tk.W 0 (some 13) (.fieldAddr 35 (.tmp 2) 1) 0 none ?_
      refine Tk.W 1 (some 14) (.load 26 (.tmp 13)) 26 none ?_
      refine Tk.W 2 (some 15) (.fieldAddr 96 (.tmp 3) 2) 0 none ?_
      refine Tk.W 3 (some 16) (.load 32 (.tmp 15)) 32 none ?_
      refine Tk.W 4 (some 17) (.move (.tmp 5)) 3 none ?_
      refine Tk.W 5 (some 18) (.indexAddr 32 (.tmp 16) (.tmp 17)) 0 none ?_
      refine Tk.W 6 (some 19) (.load 125 (.tmp 18)) 125 none ?_
      refine Tk.R 7 (some 20) (.call ⟨.value (.func 108), #[.tmp 14, .tmp 19], #[26, 125]⟩) 4 none (fun K hK => ?_)
      go_simp
      refine (Sl.s_SealRight aK c.zs.length cK c.zs (es S k).1 (es S k).2.1 (es S k).2.2 _ ((hKy.later hHeld.2.out.B (Nat.le_refl _)).more hHeld.2.out.B.size) hnK).mono ?_
      rintro e wv ⟨rfl, b4⟩
      have PB2 := hHeld.2.out.below b4
      try dsimp only
      refine hK.out _ _ ⟨⟨PB2.X.cell 6 rfl, PB2.Y.cell 2 rfl, HC.out _ PB2.B⟩, PB2⟩ ?_; clear hK K hHeld; intro hHeld; try simp only [Act.put, List.setIfInBounds_toArray, List.set_cons_zero, List.set_cons_succ]
      refine Tk.W 8 (some 21) (.unOp .not 4 (.tmp 20)) 4 none ?_
      refine wpAnyH_done (by kernel_rfl) ?_ _
      refine NoPanic.normal ?_
      have PB3 := hHeld.2.out
      clear hHeld
      cases hq : SR c.zs c.zs.length (es S k).1 (es S k).2.1 (es S k).2.2 with
      | false =>
        have HV : Hid (QK c (x, y, S) = false) := HT.out hq
        clear hq
        go_wp2
        go_ret
        exact ⟨retb HV.out.symm, PB3.B⟩
      | true =>
        have HN := HF.out hq
        clear hq
        go_wp2
        go_roundw
        case rel => exact ⟨k + 1, by omega, by go_num, ⟨PB3, HN⟩⟩
        case measure => simp [intOf]; omega
    · have hi : ¬ (k : Int) < (S.length : Int) := by omega
      obtain rfl : k = S.length := by omega
      have PB := HH.out.1
      have p0 := PB.Y.cell 0 rfl
      have p1 := PB.Y.cell 1 rfl
      have s0 := PB.X.cell 0 rfl
      have s1 := PB.X.cell 1 rfl
      have s2 := PB.X.cell 2 rfl
      have s3 := PB.X.cell 3 rfl
      have s4 := PB.X.cell 4 rfl
      have s5 := PB.X.cell 5 rfl
      have s6 := PB.X.cell 6 rfl
      have s7 := PB.X.cell 7 rfl
      have s8 := PB.X.cell 8 rfl
      have s9 := PB.X.cell 9 rfl
      have s10 := PB.X.cell 10 rfl
      have s11 := PB.X.cell 11 rfl
      have s12 := PB.X.cell 12 rfl
      by_cases h2 : c.now + 1 ≤ x ∧ x ≤ c.now + c.m
      · go_wp2_with fail
        refine (Sp.s_l1In (c.now + 1) (c.now + c.m) x _).mono ?_
        rintro e w2 ⟨rfl, rfl⟩
        rw [lk_yes h2]
        go_wp2_with fail
        refine (honestS c aL cL _ P Q M F y _ ((hL.later PB.B (Nat.le_refl _)).more PB.B.size) hnL).mono ?_
        rintro e w3 ⟨rfl, b3⟩
        replace PB := PB.below b3
        have z2 := PB.Y.cell 2 rfl
        clear b3 s0 s1 s2 s3 s4 s5 s6 s7 s8 s9 s10 s11 s12 p0 p1 p2
        cases hq : HO c.bs y with
        | false =>
          have HV : Hid (QK c (x, y, S) = false) := qk_to hq
          clear hq
          go_wp2
          go_ret
          exact ⟨retb HV.out.symm, PB.B⟩
        | true =>
          have HV : Hid (QK c (x, y, S) = decide (S.length ≤ 48)) := qk_len HH.out.2 h2 hq
          clear hq
          by_cases h4 : S.length ≤ 48
          · rw [decide_eq_true h4] at HV
            have d4 : decide ((S.length : Int) ≤ 48) = true := decide_eq_true (by omega)
            go_wp2
            go_ret
            exact ⟨retb HV.out.symm, PB.B⟩
          · rw [decide_eq_false h4] at HV
            have d4 : decide ((S.length : Int) ≤ 48) = false := decide_eq_false (by omega)
            clear h4
            go_wp2
            go_ret
            exact ⟨retb HV.out.symm, PB.B⟩
      · have HV : Hid (QK c (x, y, S) = false) := qk_due h2
        go_wp2_with fail
        refine (Sp.s_l1In (c.now + 1) (c.now + c.m) x _).mono ?_
        rintro e w2 ⟨rfl, rfl⟩
        rw [lk_no h2]
        clear h2
        go_wp2
        go_ret
        exact ⟨retb HV.out.symm, PB.B⟩

end Go.Proofs.YtimakfokgcnklaaGreat.Cd
