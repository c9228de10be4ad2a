/-
  The parcels, the facts of a court, right or not (impl.parcelsOk, factsOk).
-/
import Derived.Test.YtimakfokgcnklaaGreatPq
import Derived.Test.YtimakfokgcnklaaGreatTk
namespace Go.Proofs.YtimakfokgcnklaaGreat.Mi
open Go.ChangeShapes Go.WideShapes Go.ChangeAt Go.RowKit
open Ls (el Row)
open Rm (Room)
open Rd (Flags)
open Ow (ints Own)
open Sb (S3 es es_ext fl sl Row3 SHas)
open Ns
open Sl (KO SR lk_yes lk_no)
open Sp (LK retb reti span)
open Cd
set_option linter.unusedVariables false
set_option linter.unusedSimpArgs false

theorem row_ints {w : World} {g : Nat} {zs : List Int} (h : g < w.heap.size) (R : Room w g (ints zs)) : Row w w.heap.size (some ⟨g, 0, none⟩) zs.length zs :=
  ⟨rfl, .inr ⟨g, 0, rfl, h, fun k hk => by
    rw [Nat.zero_add]
    refine R.cell k ?_
    simp [ints, el, List.getElem?_eq_getElem hk]⟩⟩
theorem not_false_iff {a b : Bool} (h : a = false ↔ b = true) : (!a) = b := by
  cases a <;> cases b <;> simp_all

def PQ (c : CD) : Bool := decide (c.qs.length ≤ 3000 ∧ C4 c c.qs.length)
theorem pq_no {c : CD} (h : ¬ c.qs.length ≤ 3000) : PQ c = false := decide_eq_false fun q => h q.1
theorem pq_an {c : CD} (h : c.qs.length ≤ 3000) : PQ c = !AN (fun k => !QK c (qd c.qs k)) c.qs.length := by
  unfold PQ
  rw [Bool.eq_iff_iff, decide_eq_true_iff, Bool.not_eq_true', an_iff]
  constructor
  · rintro ⟨_, g⟩ k hk
    show (!QK c (qd c.qs k)) = false
    rw [g k hk]; rfl
  · intro g
    refine ⟨h, fun k hk => ?_⟩
    have := g k hk
    simpa using this
theorem al_at {zs : List Int} {A : List S3} : AL zs zs.length A = decide (AT zs A A.length) := by
  unfold AL
  rw [Bool.eq_iff_iff, decide_eq_true_iff, Bool.not_eq_true', an_iff]
  constructor
  · intro g i hi
    have := g i hi
    unfold Mg.RT
    simpa using this
  · intro g i hi
    have := g i hi
    unfold Mg.RT at this
    show (!SR zs zs.length _ _ _) = false
    rw [this]; rfl
theorem lk_dec (lo hi x : Int) : LK lo hi x = !decide (lo ≤ x ∧ x ≤ hi) := by
  by_cases h : lo ≤ x ∧ x ≤ hi
  · rw [lk_yes h, decide_eq_true h]; rfl
  · rw [lk_no h, decide_eq_false h]; rfl
theorem qk_or {c : CD} (q : QD) : (LK (c.now + 1) (c.now + c.m) q.1 || (!IH (HN c.bs c.bs.length) q.2.1 || (decide (48 < q.2.2.length) || !AL c.zs c.zs.length q.2.2))) = !QK c q := by
  rw [lk_dec, ih_ho, al_at]
  unfold QK
  by_cases h : q.2.2.length ≤ 48
  · rw [decide_eq_true h, decide_eq_false (show ¬ 48 < q.2.2.length by omega)]
    cases decide (AT c.zs q.2.2 q.2.2.length) <;> cases decide (c.now + 1 ≤ q.1 ∧ q.1 ≤ c.now + c.m) <;> cases HO c.bs q.2.1 <;> rfl
  · rw [decide_eq_false h, decide_eq_true (show 48 < q.2.2.length by omega)]
    cases decide (AT c.zs q.2.2 q.2.2.length) <;> cases decide (c.now + 1 ≤ q.1 ∧ q.1 ≤ c.now + c.m) <;> cases HO c.bs q.2.1 <;> rfl
theorem fk_or {c : CD} (q : S3) : (!IH (HN c.bs c.bs.length) q.1 || (LK 1 1000 q.2.1 || LK 0 c.now q.2.2)) = !FK c q := by
  rw [lk_dec, lk_dec, ih_ho]
  unfold FK
  cases HO c.bs q.1 <;> cases decide (1 ≤ q.2.1 ∧ q.2.1 ≤ 1000) <;> cases decide (0 ≤ q.2.2 ∧ q.2.2 ≤ c.now) <;> rfl
def PF (c : CD) : Bool := decide (c.fs.length ≤ 3000 ∧ C5 c c.fs.length)
theorem pf_no {c : CD} (h : ¬ c.fs.length ≤ 3000) : PF c = false := decide_eq_false fun q => h q.1
theorem pf_an {c : CD} (h : c.fs.length ≤ 3000) : PF c = !AN (fun k => !FK c (es c.fs k)) c.fs.length := by
  unfold PF
  rw [Bool.eq_iff_iff, decide_eq_true_iff, Bool.not_eq_true', an_iff]
  constructor
  · rintro ⟨_, g⟩ k hk
    show (!FK c (es c.fs k)) = false
    rw [g k hk]; rfl
  · intro g
    refine ⟨h, fun k hk => ?_⟩
    have := g k hk
    simpa using this

set_option maxHeartbeats 16000000 in
set_option maxRecDepth 100000 in
theorem i_parcelsOk (c : CD) (aK aL aP aQ aM aF : Option Addr) (cK cL cP cQ cM cF : Nat) (w : World) (hA : c.At w aK aL aP aQ aM aF) (hz : c.Sm) (hpl : c.ps.length = c.bs.length) (hnw : 0 ≤ c.now ∧ c.now ≤ 100000) (hm : 1 ≤ c.m ∧ c.m ≤ 1000) :
    Calls Tryz.prog 53 #[.agg #[.int .i64 c.n, .int .i64 c.f, .int .i64 c.p, .int .i64 c.a, .int .i64 c.l, .int .i64 c.m, .slice aK c.zs.length cK, .slice aL c.bs.length cL, .slice aP c.ps.length cP, .slice aQ c.qs.length cQ, .int .i64 c.now, .slice aM c.ms.length cM, .slice aF c.fs.length cF]] w fun e w' => e = .returned (.bool (PQ c)) ∧ Below w.heap.size w w' := by
  have hw1 : IntKind.i64.wrap (c.now + 1) = c.now + 1 := by rw [IntKind.wrap_i64]; omega
  have hw2 : IntKind.i64.wrap (c.now + c.m) = c.now + c.m := by rw [IntKind.wrap_i64]; omega
  have hb1 := hz.L
  have HPB : Hid (c.ps.length = c.bs.length) := hpl
  have PB : Kb c aK aL aP aQ aM aF w (w.alloc (.cells #[.int .i64 c.n, .int .i64 c.f, .int .i64 c.p, .int .i64 c.a, .int .i64 c.l, .int .i64 c.m, .slice aK c.zs.length cK, .slice aL c.bs.length cL, .slice aP c.ps.length cP, .slice aQ c.qs.length cQ, .int .i64 c.now, .slice aM c.ms.length cM, .slice aF c.fs.length cF] 35)) [.int .i64 c.n, .int .i64 c.f, .int .i64 c.p, .int .i64 c.a, .int .i64 c.l, .int .i64 c.m, .slice aK c.zs.length cK, .slice aL c.bs.length cL, .slice aP c.ps.length cP, .slice aQ c.qs.length cQ, .int .i64 c.now, .slice aM c.ms.length cM, .slice aF c.fs.length cF] := ⟨(Below.refl _ _).alloc (Nat.le_refl _) _, Room.new w [.int .i64 c.n, .int .i64 c.f, .int .i64 c.p, .int .i64 c.a, .int .i64 c.l, .int .i64 c.m, .slice aK c.zs.length cK, .slice aL c.bs.length cL, .slice aP c.ps.length cP, .slice aQ c.qs.length cQ, .int .i64 c.now, .slice aM c.ms.length cM, .slice aF c.fs.length cF] 35, hA.below ((Below.refl _ _).alloc (Nat.le_refl _) _)⟩
  clear hpl
  go_enter Tryz.func53, Tryz.ntmps53
  go_wp2_with fail
  generalize w.alloc (.cells #[.int .i64 c.n, .int .i64 c.f, .int .i64 c.p, .int .i64 c.a, .int .i64 c.l, .int .i64 c.m, .slice aK c.zs.length cK, .slice aL c.bs.length cL, .slice aP c.ps.length cP, .slice aQ c.qs.length cQ, .int .i64 c.now, .slice aM c.ms.length cM, .slice aF c.fs.length cF] 35) = w1 at PB ⊢
  go_cut [3, 4] from 6 (fun p3 p4 wc => ∃ (pA pB gh ch : Nat), p3 = .pointer (some ⟨pA, 0, none⟩) ∧ p4 = .pointer (some ⟨pB, 0, none⟩) ∧ Hid (Kb c aK aL aP aQ aM aF w wc [.int .i64 c.n, .int .i64 c.f, .int .i64 c.p, .int .i64 c.a, .int .i64 c.l, .int .i64 c.m, .slice aK c.zs.length cK, .slice aL c.bs.length cL, .slice aP c.ps.length cP, .slice aQ c.qs.length cQ, .int .i64 c.now, .slice aM c.ms.length cM, .slice aF c.fs.length cF] ∧ Bk w wc pA [.slice (some ⟨gh, 0, none⟩) (HN c.bs c.bs.length).length ch] ∧ Bk w wc pB [.int .i64 (c.now + 1), .int .i64 (c.now + c.m)] ∧ Bk w wc gh (ints (HN c.bs c.bs.length))))
  case first =>
    refine wp_region_noPanic ?_
    refine wp_region_held_drew (S := (fun w' => (w'.cell? ⟨w.heap.size, 0, none⟩ = some (.int .i64 c.n) ∧ w'.cell? ⟨w.heap.size, 1, none⟩ = some (.int .i64 c.f) ∧ w'.cell? ⟨w.heap.size, 2, none⟩ = some (.int .i64 c.p) ∧ w'.cell? ⟨w.heap.size, 3, none⟩ = some (.int .i64 c.a) ∧ w'.cell? ⟨w.heap.size, 4, none⟩ = some (.int .i64 c.l) ∧ w'.cell? ⟨w.heap.size, 5, none⟩ = some (.int .i64 c.m) ∧ w'.cell? ⟨w.heap.size, 6, none⟩ = some (.slice aK c.zs.length cK) ∧ w'.cell? ⟨w.heap.size, 7, none⟩ = some (.slice aL c.bs.length cL) ∧ w'.cell? ⟨w.heap.size, 8, none⟩ = some (.slice aP c.ps.length cP) ∧ w'.cell? ⟨w.heap.size, 9, none⟩ = some (.slice aQ c.qs.length cQ) ∧ w'.cell? ⟨w.heap.size, 10, none⟩ = some (.int .i64 c.now) ∧ w'.cell? ⟨w.heap.size, 11, none⟩ = some (.slice aM c.ms.length cM) ∧ w'.cell? ⟨w.heap.size, 12, none⟩ = some (.slice aF c.fs.length cF)) ∧ Hid (Kb c aK aL aP aQ aM aF w w' [.int .i64 c.n, .int .i64 c.f, .int .i64 c.p, .int .i64 c.a, .int .i64 c.l, .int .i64 c.m, .slice aK c.zs.length cK, .slice aL c.bs.length cL, .slice aP c.ps.length cP, .slice aQ c.qs.length cQ, .int .i64 c.now, .slice aM c.ms.length cM, .slice aF c.fs.length cF]))) (by kernel_rfl) ⟨⟨(PB.below (Below.refl _ _).drew).X.cell 0 rfl, (PB.below (Below.refl _ _).drew).X.cell 1 rfl, (PB.below (Below.refl _ _).drew).X.cell 2 rfl, (PB.below (Below.refl _ _).drew).X.cell 3 rfl, (PB.below (Below.refl _ _).drew).X.cell 4 rfl, (PB.below (Below.refl _ _).drew).X.cell 5 rfl, (PB.below (Below.refl _ _).drew).X.cell 6 rfl, (PB.below (Below.refl _ _).drew).X.cell 7 rfl, (PB.below (Below.refl _ _).drew).X.cell 8 rfl, (PB.below (Below.refl _ _).drew).X.cell 9 rfl, (PB.below (Below.refl _ _).drew).X.cell 10 rfl, (PB.below (Below.refl _ _).drew).X.cell 11 rfl, (PB.below (Below.refl _ _).drew).X.cell 12 rfl⟩, (PB.below (Below.refl _ _).drew)⟩ (fun hHeld => ?_)
    generalize w1.drew = y0 at hHeld ⊢
    refine Tk.W 0 (some 6) (.load 35 (.tmp 1)) 35 none ?_
    refine Tk.W 2 (some 8) (.fieldAddr 35 (.tmp 1) 5) 0 none ?_
    refine Tk.W 3 (some 9) (.load 2 (.tmp 8)) 2 none ?_
    refine Tk.W 4 (some 10) (.binOp .add 2 (.tmp 9) (.const (.int .i64 1)) 2) 2 none ?_
    refine Tk.W 5 (some 11) (.fieldAddr 35 (.tmp 1) 5) 0 none ?_
    refine Tk.W 6 (some 12) (.load 2 (.tmp 11)) 2 none ?_
    refine Tk.W 7 (some 13) (.fieldAddr 35 (.tmp 1) 0) 0 none ?_
    refine Tk.W 8 (some 14) (.fieldAddr 25 (.tmp 13) 5) 0 none ?_
    refine Tk.W 9 (some 15) (.load 2 (.tmp 14)) 2 none ?_
    refine Tk.W 10 (some 16) (.binOp .add 2 (.tmp 12) (.tmp 15) 2) 2 none ?_
    refine Tk.W 11 (some 17) (.build 79 #[(0, .tmp 10), (1, .tmp 16)]) 79 none ?_
    refine wpAnyH_ready (rs := [1, 12, 13]) (by kernel_rfl) (by simp) ?_
    refine (AllReadyH.cons (o := ⟨some 7, .call ⟨.value (.func 49), #[.tmp 6], #[35]⟩, 26, _, _, none⟩) rfl (fun K hK => ?_) (AllReadyH.cons (o := ⟨some 3, .alloc 26, 0, _, _, none⟩) rfl (fun K hK => ?_) (AllReadyH.cons (o := ⟨some 4, .alloc 79, 0, _, _, none⟩) rfl (fun K hK => ?_) AllReadyH.nil)))
    · go_simp
      refine (i_bareHonest c _ _ _ _ _ _ _ _ _ _ _ _ _ hHeld.2.out.A hb1 HPB.out).mono ?_
      rintro e y1 ⟨⟨gh, ch, rfl, oh⟩, bz12⟩
      have Pz12 := hHeld.2.out.below bz12
      have b_gh : Bk w y1 gh (ints (HN c.bs c.bs.length)) := Bk.own oh (hHeld.2.out.X.lt (by simp))
      have hge : y0.heap.size ≤ gh := oh.data.2.1
      clear oh
      clear bz12 hge
      try dsimp only
      refine hK.out _ _ ⟨⟨Pz12.X.cell 0 rfl, Pz12.X.cell 1 rfl, Pz12.X.cell 2 rfl, Pz12.X.cell 3 rfl, Pz12.X.cell 4 rfl, Pz12.X.cell 5 rfl, Pz12.X.cell 6 rfl, Pz12.X.cell 7 rfl, Pz12.X.cell 8 rfl, Pz12.X.cell 9 rfl, Pz12.X.cell 10 rfl, Pz12.X.cell 11 rfl, Pz12.X.cell 12 rfl⟩, Pz12⟩ ?_; clear hK K hHeld; intro hHeld; try simp only [Act.put, List.setIfInBounds_toArray, List.set_cons_zero, List.set_cons_succ]
      refine wpAnyH_ready (rs := [12, 13]) (by kernel_rfl) (by simp) ?_
      refine (AllReadyH.cons (o := ⟨some 3, .alloc 26, 0, _, _, none⟩) rfl (fun K hK => ?_) (AllReadyH.cons (o := ⟨some 4, .alloc 79, 0, _, _, none⟩) rfl (fun K hK => ?_) AllReadyH.nil))
      · go_simp
        have Bz13 := (Below.refl y1.heap.size y1).alloc (Nat.le_refl _) (.cells #[.slice none 0 0] 26)
        have ltz13 := hHeld.2.out.X.lt (by simp)
        have Pz13 := hHeld.2.out.below Bz13
        obtain ⟨pA, h_pA⟩ : ∃ p, p = y1.heap.size := ⟨_, rfl⟩
        have b_pA := Bk.new (w := w) h_pA ltz13 [.slice none 0 0] 26
        have n_gh_pA : gh ≠ pA := by rw [h_pA]; exact Nat.ne_of_lt b_gh.lt
        replace b_gh := b_gh.below Bz13
        rw [← h_pA]
        generalize y1.alloc (.cells #[.slice none 0 0] 26) = y2 at Pz13 b_gh b_pA ⊢
        clear Bz13 h_pA ltz13
        try dsimp only
        refine hK.out _ _ ⟨⟨Pz13.X.cell 0 rfl, Pz13.X.cell 1 rfl, Pz13.X.cell 2 rfl, Pz13.X.cell 3 rfl, Pz13.X.cell 4 rfl, Pz13.X.cell 5 rfl, Pz13.X.cell 6 rfl, Pz13.X.cell 7 rfl, Pz13.X.cell 8 rfl, Pz13.X.cell 9 rfl, Pz13.X.cell 10 rfl, Pz13.X.cell 11 rfl, Pz13.X.cell 12 rfl⟩, Pz13⟩ ?_; clear hK K hHeld; intro hHeld; try simp only [Act.put, List.setIfInBounds_toArray, List.set_cons_zero, List.set_cons_succ]
        refine Tk.R 13 (some 4) (.alloc 79) 0 none (fun K hK => ?_)
        go_simp
        have Bz14 := (Below.refl y2.heap.size y2).alloc (Nat.le_refl _) (.cells #[.int .i64 0, .int .i64 0] 79)
        have ltz14 := hHeld.2.out.X.lt (by simp)
        have Pz14 := hHeld.2.out.below Bz14
        obtain ⟨pB, h_pB⟩ : ∃ p, p = y2.heap.size := ⟨_, rfl⟩
        have b_pB := Bk.new (w := w) h_pB ltz14 [.int .i64 0, .int .i64 0] 79
        have n_gh_pB : gh ≠ pB := by rw [h_pB]; exact Nat.ne_of_lt b_gh.lt
        replace b_gh := b_gh.below Bz14
        have n_pA_pB : pA ≠ pB := by rw [h_pB]; exact Nat.ne_of_lt b_pA.lt
        replace b_pA := b_pA.below Bz14
        rw [← h_pB]
        generalize y2.alloc (.cells #[.int .i64 0, .int .i64 0] 79) = y3 at Pz14 b_gh b_pA b_pB ⊢
        clear Bz14 h_pB ltz14
        try dsimp only
        refine hK.out _ _ ⟨⟨Pz14.X.cell 0 rfl, Pz14.X.cell 1 rfl, Pz14.X.cell 2 rfl, Pz14.X.cell 3 rfl, Pz14.X.cell 4 rfl, Pz14.X.cell 5 rfl, Pz14.X.cell 6 rfl, Pz14.X.cell 7 rfl, Pz14.X.cell 8 rfl, Pz14.X.cell 9 rfl, Pz14.X.cell 10 rfl, Pz14.X.cell 11 rfl, Pz14.X.cell 12 rfl⟩, Pz14⟩ ?_; clear hK K hHeld; intro hHeld; try simp only [Act.put, List.setIfInBounds_toArray, List.set_cons_zero, List.set_cons_succ]
        refine Tk.R 14 none (.store 26 (.tmp 3) (.tmp 7)) 0 none (fun K hK => ?_)
        have f0 := b_pA.R.cell 0 rfl
        have q0 := b_pA.R.froz 0 rfl
        go_simp
        clear f0 q0
        have Pz150 := hHeld.2.out.of_mid (Mid.set y3 pA 0 (.slice (some ⟨gh, 0, none⟩) (HN c.bs c.bs.length).length ch)) b_pA.lo hA (by simp)
        replace b_gh := b_gh.other n_gh_pA.symm 0 (.slice (some ⟨gh, 0, none⟩) (HN c.bs c.bs.length).length ch)
        replace b_pB := b_pB.other n_pA_pB 0 (.slice (some ⟨gh, 0, none⟩) (HN c.bs c.bs.length).length ch)
        replace b_pA := b_pA.set 0 (.slice (some ⟨gh, 0, none⟩) (HN c.bs c.bs.length).length ch)
        have Pz15 := Pz150
        clear Pz150
        generalize y3.setCell ⟨pA, 0, none⟩ (.slice (some ⟨gh, 0, none⟩) (HN c.bs c.bs.length).length ch) = y4 at Pz15 b_gh b_pA b_pB ⊢
        try dsimp only
        refine hK.out _ _ ⟨⟨Pz15.X.cell 0 rfl, Pz15.X.cell 1 rfl, Pz15.X.cell 2 rfl, Pz15.X.cell 3 rfl, Pz15.X.cell 4 rfl, Pz15.X.cell 5 rfl, Pz15.X.cell 6 rfl, Pz15.X.cell 7 rfl, Pz15.X.cell 8 rfl, Pz15.X.cell 9 rfl, Pz15.X.cell 10 rfl, Pz15.X.cell 11 rfl, Pz15.X.cell 12 rfl⟩, Pz15⟩ ?_; clear hK K hHeld; intro hHeld; try simp only [Act.put, List.setIfInBounds_toArray, List.set_cons_zero, List.set_cons_succ]
        refine Tk.R 15 none (.store 79 (.tmp 4) (.tmp 17)) 0 none (fun K hK => ?_)
        have f0 := b_pB.R.cell 0 rfl
        have q0 := b_pB.R.froz 0 rfl
        have f1 := b_pB.R.cell 1 rfl
        have q1 := b_pB.R.froz 1 rfl
        go_simp
        clear f0 q0 f1 q1
        have Pz160 := hHeld.2.out.of_mid (Mid.set y4 pB 0 (.int .i64 (c.now + 1))) b_pB.lo hA (by simp)
        replace b_gh := b_gh.other n_gh_pB.symm 0 (.int .i64 (c.now + 1))
        replace b_pA := b_pA.other n_pA_pB.symm 0 (.int .i64 (c.now + 1))
        replace b_pB := b_pB.set 0 (.int .i64 (c.now + 1))
        have Pz161 := Pz160.of_mid (Mid.set (y4.setCell ⟨pB, 0, none⟩ (.int .i64 (c.now + 1))) pB 1 (.int .i64 (c.now + c.m))) b_pB.lo hA (by simp)
        replace b_gh := b_gh.other n_gh_pB.symm 1 (.int .i64 (c.now + c.m))
        replace b_pA := b_pA.other n_pA_pB.symm 1 (.int .i64 (c.now + c.m))
        replace b_pB := b_pB.set 1 (.int .i64 (c.now + c.m))
        have Pz16 := Pz161
        clear Pz160 Pz161
        generalize (y4.setCell ⟨pB, 0, none⟩ (.int .i64 (c.now + 1))).setCell ⟨pB, 1, none⟩ (.int .i64 (c.now + c.m)) = y5 at Pz16 b_gh b_pA b_pB ⊢
        try dsimp only
        refine hK.out _ _ ⟨⟨Pz16.X.cell 0 rfl, Pz16.X.cell 1 rfl, Pz16.X.cell 2 rfl, Pz16.X.cell 3 rfl, Pz16.X.cell 4 rfl, Pz16.X.cell 5 rfl, Pz16.X.cell 6 rfl, Pz16.X.cell 7 rfl, Pz16.X.cell 8 rfl, Pz16.X.cell 9 rfl, Pz16.X.cell 10 rfl, Pz16.X.cell 11 rfl, Pz16.X.cell 12 rfl⟩, Pz16⟩ ?_; clear hK K hHeld; intro hHeld; try simp only [Act.put, List.setIfInBounds_toArray, List.set_cons_zero, List.set_cons_succ]
        refine wpAnyH_done (by kernel_rfl) ?_ _
        refine NoPanic.normal ?_
        have PX := hHeld.2.out
        clear hHeld
        go_wp2_with fail
        go_meet
        case rel => exact ⟨pA, pB, gh, ch, rfl, rfl, ⟨PX, b_pA, b_pB, b_gh⟩⟩
      · go_simp
        have Bz17 := (Below.refl y1.heap.size y1).alloc (Nat.le_refl _) (.cells #[.int .i64 0, .int .i64 0] 79)
        have ltz17 := hHeld.2.out.X.lt (by simp)
        have Pz17 := hHeld.2.out.below Bz17
        obtain ⟨pB, h_pB⟩ : ∃ p, p = y1.heap.size := ⟨_, rfl⟩
        have b_pB := Bk.new (w := w) h_pB ltz17 [.int .i64 0, .int .i64 0] 79
        have n_gh_pB : gh ≠ pB := by rw [h_pB]; exact Nat.ne_of_lt b_gh.lt
        replace b_gh := b_gh.below Bz17
        rw [← h_pB]
        generalize y1.alloc (.cells #[.int .i64 0, .int .i64 0] 79) = y2 at Pz17 b_gh b_pB ⊢
        clear Bz17 h_pB ltz17
        try dsimp only
        refine hK.out _ _ ⟨⟨Pz17.X.cell 0 rfl, Pz17.X.cell 1 rfl, Pz17.X.cell 2 rfl, Pz17.X.cell 3 rfl, Pz17.X.cell 4 rfl, Pz17.X.cell 5 rfl, Pz17.X.cell 6 rfl, Pz17.X.cell 7 rfl, Pz17.X.cell 8 rfl, Pz17.X.cell 9 rfl, Pz17.X.cell 10 rfl, Pz17.X.cell 11 rfl, Pz17.X.cell 12 rfl⟩, Pz17⟩ ?_; clear hK K hHeld; intro hHeld; try simp only [Act.put, List.setIfInBounds_toArray, List.set_cons_zero, List.set_cons_succ]
        refine Tk.R 12 (some 3) (.alloc 26) 0 none (fun K hK => ?_)
        go_simp
        have Bz18 := (Below.refl y2.heap.size y2).alloc (Nat.le_refl _) (.cells #[.slice none 0 0] 26)
        have ltz18 := hHeld.2.out.X.lt (by simp)
        have Pz18 := hHeld.2.out.below Bz18
        obtain ⟨pA, h_pA⟩ : ∃ p, p = y2.heap.size := ⟨_, rfl⟩
        have b_pA := Bk.new (w := w) h_pA ltz18 [.slice none 0 0] 26
        have n_gh_pA : gh ≠ pA := by rw [h_pA]; exact Nat.ne_of_lt b_gh.lt
        replace b_gh := b_gh.below Bz18
        have n_pB_pA : pB ≠ pA := by rw [h_pA]; exact Nat.ne_of_lt b_pB.lt
        replace b_pB := b_pB.below Bz18
        rw [← h_pA]
        generalize y2.alloc (.cells #[.slice none 0 0] 26) = y3 at Pz18 b_gh b_pB b_pA ⊢
        clear Bz18 h_pA ltz18
        try dsimp only
        refine hK.out _ _ ⟨⟨Pz18.X.cell 0 rfl, Pz18.X.cell 1 rfl, Pz18.X.cell 2 rfl, Pz18.X.cell 3 rfl, Pz18.X.cell 4 rfl, Pz18.X.cell 5 rfl, Pz18.X.cell 6 rfl, Pz18.X.cell 7 rfl, Pz18.X.cell 8 rfl, Pz18.X.cell 9 rfl, Pz18.X.cell 10 rfl, Pz18.X.cell 11 rfl, Pz18.X.cell 12 rfl⟩, Pz18⟩ ?_; clear hK K hHeld; intro hHeld; try simp only [Act.put, List.setIfInBounds_toArray, List.set_cons_zero, List.set_cons_succ]
        refine Tk.R 14 none (.store 26 (.tmp 3) (.tmp 7)) 0 none (fun K hK => ?_)
        have f0 := b_pA.R.cell 0 rfl
        have q0 := b_pA.R.froz 0 rfl
        go_simp
        clear f0 q0
        have Pz190 := hHeld.2.out.of_mid (Mid.set y3 pA 0 (.slice (some ⟨gh, 0, none⟩) (HN c.bs c.bs.length).length ch)) b_pA.lo hA (by simp)
        replace b_gh := b_gh.other n_gh_pA.symm 0 (.slice (some ⟨gh, 0, none⟩) (HN c.bs c.bs.length).length ch)
        replace b_pB := b_pB.other n_pB_pA.symm 0 (.slice (some ⟨gh, 0, none⟩) (HN c.bs c.bs.length).length ch)
        replace b_pA := b_pA.set 0 (.slice (some ⟨gh, 0, none⟩) (HN c.bs c.bs.length).length ch)
        have Pz19 := Pz190
        clear Pz190
        generalize y3.setCell ⟨pA, 0, none⟩ (.slice (some ⟨gh, 0, none⟩) (HN c.bs c.bs.length).length ch) = y4 at Pz19 b_gh b_pB b_pA ⊢
        try dsimp only
        refine hK.out _ _ ⟨⟨Pz19.X.cell 0 rfl, Pz19.X.cell 1 rfl, Pz19.X.cell 2 rfl, Pz19.X.cell 3 rfl, Pz19.X.cell 4 rfl, Pz19.X.cell 5 rfl, Pz19.X.cell 6 rfl, Pz19.X.cell 7 rfl, Pz19.X.cell 8 rfl, Pz19.X.cell 9 rfl, Pz19.X.cell 10 rfl, Pz19.X.cell 11 rfl, Pz19.X.cell 12 rfl⟩, Pz19⟩ ?_; clear hK K hHeld; intro hHeld; try simp only [Act.put, List.setIfInBounds_toArray, List.set_cons_zero, List.set_cons_succ]
        refine Tk.R 15 none (.store 79 (.tmp 4) (.tmp 17)) 0 none (fun K hK => ?_)
        have f0 := b_pB.R.cell 0 rfl
        have q0 := b_pB.R.froz 0 rfl
        have f1 := b_pB.R.cell 1 rfl
        have q1 := b_pB.R.froz 1 rfl
        go_simp
        clear f0 q0 f1 q1
        have Pz200 := hHeld.2.out.of_mid (Mid.set y4 pB 0 (.int .i64 (c.now + 1))) b_pB.lo hA (by simp)
        replace b_gh := b_gh.other n_gh_pB.symm 0 (.int .i64 (c.now + 1))
        replace b_pA := b_pA.other n_pB_pA 0 (.int .i64 (c.now + 1))
        replace b_pB := b_pB.set 0 (.int .i64 (c.now + 1))
        have Pz201 := Pz200.of_mid (Mid.set (y4.setCell ⟨pB, 0, none⟩ (.int .i64 (c.now + 1))) pB 1 (.int .i64 (c.now + c.m))) b_pB.lo hA (by simp)
        replace b_gh := b_gh.other n_gh_pB.symm 1 (.int .i64 (c.now + c.m))
        replace b_pA := b_pA.other n_pB_pA 1 (.int .i64 (c.now + c.m))
        replace b_pB := b_pB.set 1 (.int .i64 (c.now + c.m))
        have Pz20 := Pz201
        clear Pz200 Pz201
        generalize (y4.setCell ⟨pB, 0, none⟩ (.int .i64 (c.now + 1))).setCell ⟨pB, 1, none⟩ (.int .i64 (c.now + c.m)) = y5 at Pz20 b_gh b_pB b_pA ⊢
        try dsimp only
        refine hK.out _ _ ⟨⟨Pz20.X.cell 0 rfl, Pz20.X.cell 1 rfl, Pz20.X.cell 2 rfl, Pz20.X.cell 3 rfl, Pz20.X.cell 4 rfl, Pz20.X.cell 5 rfl, Pz20.X.cell 6 rfl, Pz20.X.cell 7 rfl, Pz20.X.cell 8 rfl, Pz20.X.cell 9 rfl, Pz20.X.cell 10 rfl, Pz20.X.cell 11 rfl, Pz20.X.cell 12 rfl⟩, Pz20⟩ ?_; clear hK K hHeld; intro hHeld; try simp only [Act.put, List.setIfInBounds_toArray, List.set_cons_zero, List.set_cons_succ]
        refine wpAnyH_done (by kernel_rfl) ?_ _
        refine NoPanic.normal ?_
        have PX := hHeld.2.out
        clear hHeld
        go_wp2_with fail
        go_meet
        case rel => exact ⟨pA, pB, gh, ch, rfl, rfl, ⟨PX, b_pA, b_pB, b_gh⟩⟩
    · go_simp
      have Bz21 := (Below.refl y0.heap.size y0).alloc (Nat.le_refl _) (.cells #[.slice none 0 0] 26)
      have ltz21 := hHeld.2.out.X.lt (by simp)
      have Pz21 := hHeld.2.out.below Bz21
      obtain ⟨pA, h_pA⟩ : ∃ p, p = y0.heap.size := ⟨_, rfl⟩
      have b_pA := Bk.new (w := w) h_pA ltz21 [.slice none 0 0] 26
      rw [← h_pA]
      generalize y0.alloc (.cells #[.slice none 0 0] 26) = y1 at Pz21 b_pA ⊢
      clear Bz21 h_pA ltz21
      try dsimp only
      refine hK.out _ _ ⟨⟨Pz21.X.cell 0 rfl, Pz21.X.cell 1 rfl, Pz21.X.cell 2 rfl, Pz21.X.cell 3 rfl, Pz21.X.cell 4 rfl, Pz21.X.cell 5 rfl, Pz21.X.cell 6 rfl, Pz21.X.cell 7 rfl, Pz21.X.cell 8 rfl, Pz21.X.cell 9 rfl, Pz21.X.cell 10 rfl, Pz21.X.cell 11 rfl, Pz21.X.cell 12 rfl⟩, Pz21⟩ ?_; clear hK K hHeld; intro hHeld; try simp only [Act.put, List.setIfInBounds_toArray, List.set_cons_zero, List.set_cons_succ]
      refine wpAnyH_ready (rs := [1, 13]) (by kernel_rfl) (by simp) ?_
      refine (AllReadyH.cons (o := ⟨some 7, .call ⟨.value (.func 49), #[.tmp 6], #[35]⟩, 26, _, _, none⟩) rfl (fun K hK => ?_) (AllReadyH.cons (o := ⟨some 4, .alloc 79, 0, _, _, none⟩) rfl (fun K hK => ?_) AllReadyH.nil))
      · go_simp
        refine (i_bareHonest c _ _ _ _ _ _ _ _ _ _ _ _ _ hHeld.2.out.A hb1 HPB.out).mono ?_
        rintro e y2 ⟨⟨gh, ch, rfl, oh⟩, bz22⟩
        have Pz22 := hHeld.2.out.below bz22
        have b_gh : Bk w y2 gh (ints (HN c.bs c.bs.length)) := Bk.own oh (hHeld.2.out.X.lt (by simp))
        have hge : y1.heap.size ≤ gh := oh.data.2.1
        clear oh
        have n_pA_gh : pA ≠ gh := Nat.ne_of_lt (Nat.lt_of_lt_of_le b_pA.lt hge)
        replace b_pA := b_pA.below bz22
        clear bz22 hge
        try dsimp only
        refine hK.out _ _ ⟨⟨Pz22.X.cell 0 rfl, Pz22.X.cell 1 rfl, Pz22.X.cell 2 rfl, Pz22.X.cell 3 rfl, Pz22.X.cell 4 rfl, Pz22.X.cell 5 rfl, Pz22.X.cell 6 rfl, Pz22.X.cell 7 rfl, Pz22.X.cell 8 rfl, Pz22.X.cell 9 rfl, Pz22.X.cell 10 rfl, Pz22.X.cell 11 rfl, Pz22.X.cell 12 rfl⟩, Pz22⟩ ?_; clear hK K hHeld; intro hHeld; try simp only [Act.put, List.setIfInBounds_toArray, List.set_cons_zero, List.set_cons_succ]
        refine Tk.R 13 (some 4) (.alloc 79) 0 none (fun K hK => ?_)
        go_simp
        have Bz23 := (Below.refl y2.heap.size y2).alloc (Nat.le_refl _) (.cells #[.int .i64 0, .int .i64 0] 79)
        have ltz23 := hHeld.2.out.X.lt (by simp)
        have Pz23 := hHeld.2.out.below Bz23
        obtain ⟨pB, h_pB⟩ : ∃ p, p = y2.heap.size := ⟨_, rfl⟩
        have b_pB := Bk.new (w := w) h_pB ltz23 [.int .i64 0, .int .i64 0] 79
        have n_pA_pB : pA ≠ pB := by rw [h_pB]; exact Nat.ne_of_lt b_pA.lt
        replace b_pA := b_pA.below Bz23
        have n_gh_pB : gh ≠ pB := by rw [h_pB]; exact Nat.ne_of_lt b_gh.lt
        replace b_gh := b_gh.below Bz23
        rw [← h_pB]
        generalize y2.alloc (.cells #[.int .i64 0, .int .i64 0] 79) = y3 at Pz23 b_pA b_gh b_pB ⊢
        clear Bz23 h_pB ltz23
        try dsimp only
        refine hK.out _ _ ⟨⟨Pz23.X.cell 0 rfl, Pz23.X.cell 1 rfl, Pz23.X.cell 2 rfl, Pz23.X.cell 3 rfl, Pz23.X.cell 4 rfl, Pz23.X.cell 5 rfl, Pz23.X.cell 6 rfl, Pz23.X.cell 7 rfl, Pz23.X.cell 8 rfl, Pz23.X.cell 9 rfl, Pz23.X.cell 10 rfl, Pz23.X.cell 11 rfl, Pz23.X.cell 12 rfl⟩, Pz23⟩ ?_; clear hK K hHeld; intro hHeld; try simp only [Act.put, List.setIfInBounds_toArray, List.set_cons_zero, List.set_cons_succ]
        refine Tk.R 14 none (.store 26 (.tmp 3) (.tmp 7)) 0 none (fun K hK => ?_)
        have f0 := b_pA.R.cell 0 rfl
        have q0 := b_pA.R.froz 0 rfl
        go_simp
        clear f0 q0
        have Pz240 := hHeld.2.out.of_mid (Mid.set y3 pA 0 (.slice (some ⟨gh, 0, none⟩) (HN c.bs c.bs.length).length ch)) b_pA.lo hA (by simp)
        replace b_gh := b_gh.other n_pA_gh 0 (.slice (some ⟨gh, 0, none⟩) (HN c.bs c.bs.length).length ch)
        replace b_pB := b_pB.other n_pA_pB 0 (.slice (some ⟨gh, 0, none⟩) (HN c.bs c.bs.length).length ch)
        replace b_pA := b_pA.set 0 (.slice (some ⟨gh, 0, none⟩) (HN c.bs c.bs.length).length ch)
        have Pz24 := Pz240
        clear Pz240
        generalize y3.setCell ⟨pA, 0, none⟩ (.slice (some ⟨gh, 0, none⟩) (HN c.bs c.bs.length).length ch) = y4 at Pz24 b_pA b_gh b_pB ⊢
        try dsimp only
        refine hK.out _ _ ⟨⟨Pz24.X.cell 0 rfl, Pz24.X.cell 1 rfl, Pz24.X.cell 2 rfl, Pz24.X.cell 3 rfl, Pz24.X.cell 4 rfl, Pz24.X.cell 5 rfl, Pz24.X.cell 6 rfl, Pz24.X.cell 7 rfl, Pz24.X.cell 8 rfl, Pz24.X.cell 9 rfl, Pz24.X.cell 10 rfl, Pz24.X.cell 11 rfl, Pz24.X.cell 12 rfl⟩, Pz24⟩ ?_; clear hK K hHeld; intro hHeld; try simp only [Act.put, List.setIfInBounds_toArray, List.set_cons_zero, List.set_cons_succ]
        refine Tk.R 15 none (.store 79 (.tmp 4) (.tmp 17)) 0 none (fun K hK => ?_)
        have f0 := b_pB.R.cell 0 rfl
        have q0 := b_pB.R.froz 0 rfl
        have f1 := b_pB.R.cell 1 rfl
        have q1 := b_pB.R.froz 1 rfl
        go_simp
        clear f0 q0 f1 q1
        have Pz250 := hHeld.2.out.of_mid (Mid.set y4 pB 0 (.int .i64 (c.now + 1))) b_pB.lo hA (by simp)
        replace b_pA := b_pA.other n_pA_pB.symm 0 (.int .i64 (c.now + 1))
        replace b_gh := b_gh.other n_gh_pB.symm 0 (.int .i64 (c.now + 1))
        replace b_pB := b_pB.set 0 (.int .i64 (c.now + 1))
        have Pz251 := Pz250.of_mid (Mid.set (y4.setCell ⟨pB, 0, none⟩ (.int .i64 (c.now + 1))) pB 1 (.int .i64 (c.now + c.m))) b_pB.lo hA (by simp)
        replace b_pA := b_pA.other n_pA_pB.symm 1 (.int .i64 (c.now + c.m))
        replace b_gh := b_gh.other n_gh_pB.symm 1 (.int .i64 (c.now + c.m))
        replace b_pB := b_pB.set 1 (.int .i64 (c.now + c.m))
        have Pz25 := Pz251
        clear Pz250 Pz251
        generalize (y4.setCell ⟨pB, 0, none⟩ (.int .i64 (c.now + 1))).setCell ⟨pB, 1, none⟩ (.int .i64 (c.now + c.m)) = y5 at Pz25 b_pA b_gh b_pB ⊢
        try dsimp only
        refine hK.out _ _ ⟨⟨Pz25.X.cell 0 rfl, Pz25.X.cell 1 rfl, Pz25.X.cell 2 rfl, Pz25.X.cell 3 rfl, Pz25.X.cell 4 rfl, Pz25.X.cell 5 rfl, Pz25.X.cell 6 rfl, Pz25.X.cell 7 rfl, Pz25.X.cell 8 rfl, Pz25.X.cell 9 rfl, Pz25.X.cell 10 rfl, Pz25.X.cell 11 rfl, Pz25.X.cell 12 rfl⟩, Pz25⟩ ?_; clear hK K hHeld; intro hHeld; try simp only [Act.put, List.setIfInBounds_toArray, List.set_cons_zero, List.set_cons_succ]
        refine wpAnyH_done (by kernel_rfl) ?_ _
        refine NoPanic.normal ?_
        have PX := hHeld.2.out
        clear hHeld
        go_wp2_with fail
        go_meet
        case rel => exact ⟨pA, pB, gh, ch, rfl, rfl, ⟨PX, b_pA, b_pB, b_gh⟩⟩
      · go_simp
        have Bz26 := (Below.refl y1.heap.size y1).alloc (Nat.le_refl _) (.cells #[.int .i64 0, .int .i64 0] 79)
        have ltz26 := hHeld.2.out.X.lt (by simp)
        have Pz26 := hHeld.2.out.below Bz26
        obtain ⟨pB, h_pB⟩ : ∃ p, p = y1.heap.size := ⟨_, rfl⟩
        have b_pB := Bk.new (w := w) h_pB ltz26 [.int .i64 0, .int .i64 0] 79
        have n_pA_pB : pA ≠ pB := by rw [h_pB]; exact Nat.ne_of_lt b_pA.lt
        replace b_pA := b_pA.below Bz26
        rw [← h_pB]
        generalize y1.alloc (.cells #[.int .i64 0, .int .i64 0] 79) = y2 at Pz26 b_pA b_pB ⊢
        clear Bz26 h_pB ltz26
        try dsimp only
        refine hK.out _ _ ⟨⟨Pz26.X.cell 0 rfl, Pz26.X.cell 1 rfl, Pz26.X.cell 2 rfl, Pz26.X.cell 3 rfl, Pz26.X.cell 4 rfl, Pz26.X.cell 5 rfl, Pz26.X.cell 6 rfl, Pz26.X.cell 7 rfl, Pz26.X.cell 8 rfl, Pz26.X.cell 9 rfl, Pz26.X.cell 10 rfl, Pz26.X.cell 11 rfl, Pz26.X.cell 12 rfl⟩, Pz26⟩ ?_; clear hK K hHeld; intro hHeld; try simp only [Act.put, List.setIfInBounds_toArray, List.set_cons_zero, List.set_cons_succ]
        refine Tk.R 1 (some 7) (.call ⟨.value (.func 49), #[.tmp 6], #[35]⟩) 26 none (fun K hK => ?_)
        go_simp
        refine (i_bareHonest c _ _ _ _ _ _ _ _ _ _ _ _ _ hHeld.2.out.A hb1 HPB.out).mono ?_
        rintro e y3 ⟨⟨gh, ch, rfl, oh⟩, bz27⟩
        have Pz27 := hHeld.2.out.below bz27
        have b_gh : Bk w y3 gh (ints (HN c.bs c.bs.length)) := Bk.own oh (hHeld.2.out.X.lt (by simp))
        have hge : y2.heap.size ≤ gh := oh.data.2.1
        clear oh
        have n_pA_gh : pA ≠ gh := Nat.ne_of_lt (Nat.lt_of_lt_of_le b_pA.lt hge)
        replace b_pA := b_pA.below bz27
        have n_pB_gh : pB ≠ gh := Nat.ne_of_lt (Nat.lt_of_lt_of_le b_pB.lt hge)
        replace b_pB := b_pB.below bz27
        clear bz27 hge
        try dsimp only
        refine hK.out _ _ ⟨⟨Pz27.X.cell 0 rfl, Pz27.X.cell 1 rfl, Pz27.X.cell 2 rfl, Pz27.X.cell 3 rfl, Pz27.X.cell 4 rfl, Pz27.X.cell 5 rfl, Pz27.X.cell 6 rfl, Pz27.X.cell 7 rfl, Pz27.X.cell 8 rfl, Pz27.X.cell 9 rfl, Pz27.X.cell 10 rfl, Pz27.X.cell 11 rfl, Pz27.X.cell 12 rfl⟩, Pz27⟩ ?_; clear hK K hHeld; intro hHeld; try simp only [Act.put, List.setIfInBounds_toArray, List.set_cons_zero, List.set_cons_succ]
        refine Tk.R 14 none (.store 26 (.tmp 3) (.tmp 7)) 0 none (fun K hK => ?_)
        have f0 := b_pA.R.cell 0 rfl
        have q0 := b_pA.R.froz 0 rfl
        go_simp
        clear f0 q0
        have Pz280 := hHeld.2.out.of_mid (Mid.set y3 pA 0 (.slice (some ⟨gh, 0, none⟩) (HN c.bs c.bs.length).length ch)) b_pA.lo hA (by simp)
        replace b_pB := b_pB.other n_pA_pB 0 (.slice (some ⟨gh, 0, none⟩) (HN c.bs c.bs.length).length ch)
        replace b_gh := b_gh.other n_pA_gh 0 (.slice (some ⟨gh, 0, none⟩) (HN c.bs c.bs.length).length ch)
        replace b_pA := b_pA.set 0 (.slice (some ⟨gh, 0, none⟩) (HN c.bs c.bs.length).length ch)
        have Pz28 := Pz280
        clear Pz280
        generalize y3.setCell ⟨pA, 0, none⟩ (.slice (some ⟨gh, 0, none⟩) (HN c.bs c.bs.length).length ch) = y4 at Pz28 b_pA b_pB b_gh ⊢
        try dsimp only
        refine hK.out _ _ ⟨⟨Pz28.X.cell 0 rfl, Pz28.X.cell 1 rfl, Pz28.X.cell 2 rfl, Pz28.X.cell 3 rfl, Pz28.X.cell 4 rfl, Pz28.X.cell 5 rfl, Pz28.X.cell 6 rfl, Pz28.X.cell 7 rfl, Pz28.X.cell 8 rfl, Pz28.X.cell 9 rfl, Pz28.X.cell 10 rfl, Pz28.X.cell 11 rfl, Pz28.X.cell 12 rfl⟩, Pz28⟩ ?_; clear hK K hHeld; intro hHeld; try simp only [Act.put, List.setIfInBounds_toArray, List.set_cons_zero, List.set_cons_succ]
        refine Tk.R 15 none (.store 79 (.tmp 4) (.tmp 17)) 0 none (fun K hK => ?_)
        have f0 := b_pB.R.cell 0 rfl
        have q0 := b_pB.R.froz 0 rfl
        have f1 := b_pB.R.cell 1 rfl
        have q1 := b_pB.R.froz 1 rfl
        go_simp
        clear f0 q0 f1 q1
        have Pz290 := hHeld.2.out.of_mid (Mid.set y4 pB 0 (.int .i64 (c.now + 1))) b_pB.lo hA (by simp)
        replace b_pA := b_pA.other n_pA_pB.symm 0 (.int .i64 (c.now + 1))
        replace b_gh := b_gh.other n_pB_gh 0 (.int .i64 (c.now + 1))
        replace b_pB := b_pB.set 0 (.int .i64 (c.now + 1))
        have Pz291 := Pz290.of_mid (Mid.set (y4.setCell ⟨pB, 0, none⟩ (.int .i64 (c.now + 1))) pB 1 (.int .i64 (c.now + c.m))) b_pB.lo hA (by simp)
        replace b_pA := b_pA.other n_pA_pB.symm 1 (.int .i64 (c.now + c.m))
        replace b_gh := b_gh.other n_pB_gh 1 (.int .i64 (c.now + c.m))
        replace b_pB := b_pB.set 1 (.int .i64 (c.now + c.m))
        have Pz29 := Pz291
        clear Pz290 Pz291
        generalize (y4.setCell ⟨pB, 0, none⟩ (.int .i64 (c.now + 1))).setCell ⟨pB, 1, none⟩ (.int .i64 (c.now + c.m)) = y5 at Pz29 b_pA b_pB b_gh ⊢
        try dsimp only
        refine hK.out _ _ ⟨⟨Pz29.X.cell 0 rfl, Pz29.X.cell 1 rfl, Pz29.X.cell 2 rfl, Pz29.X.cell 3 rfl, Pz29.X.cell 4 rfl, Pz29.X.cell 5 rfl, Pz29.X.cell 6 rfl, Pz29.X.cell 7 rfl, Pz29.X.cell 8 rfl, Pz29.X.cell 9 rfl, Pz29.X.cell 10 rfl, Pz29.X.cell 11 rfl, Pz29.X.cell 12 rfl⟩, Pz29⟩ ?_; clear hK K hHeld; intro hHeld; try simp only [Act.put, List.setIfInBounds_toArray, List.set_cons_zero, List.set_cons_succ]
        refine wpAnyH_done (by kernel_rfl) ?_ _
        refine NoPanic.normal ?_
        have PX := hHeld.2.out
        clear hHeld
        go_wp2_with fail
        go_meet
        case rel => exact ⟨pA, pB, gh, ch, rfl, rfl, ⟨PX, b_pA, b_pB, b_gh⟩⟩
    · go_simp
      have Bz30 := (Below.refl y0.heap.size y0).alloc (Nat.le_refl _) (.cells #[.int .i64 0, .int .i64 0] 79)
      have ltz30 := hHeld.2.out.X.lt (by simp)
      have Pz30 := hHeld.2.out.below Bz30
      obtain ⟨pB, h_pB⟩ : ∃ p, p = y0.heap.size := ⟨_, rfl⟩
      have b_pB := Bk.new (w := w) h_pB ltz30 [.int .i64 0, .int .i64 0] 79
      rw [← h_pB]
      generalize y0.alloc (.cells #[.int .i64 0, .int .i64 0] 79) = y1 at Pz30 b_pB ⊢
      clear Bz30 h_pB ltz30
      try dsimp only
      refine hK.out _ _ ⟨⟨Pz30.X.cell 0 rfl, Pz30.X.cell 1 rfl, Pz30.X.cell 2 rfl, Pz30.X.cell 3 rfl, Pz30.X.cell 4 rfl, Pz30.X.cell 5 rfl, Pz30.X.cell 6 rfl, Pz30.X.cell 7 rfl, Pz30.X.cell 8 rfl, Pz30.X.cell 9 rfl, Pz30.X.cell 10 rfl, Pz30.X.cell 11 rfl, Pz30.X.cell 12 rfl⟩, Pz30⟩ ?_; clear hK K hHeld; intro hHeld; try simp only [Act.put, List.setIfInBounds_toArray, List.set_cons_zero, List.set_cons_succ]
      refine wpAnyH_ready (rs := [1, 12]) (by kernel_rfl) (by simp) ?_
      refine (AllReadyH.cons (o := ⟨some 7, .call ⟨.value (.func 49), #[.tmp 6], #[35]⟩, 26, _, _, none⟩) rfl (fun K hK => ?_) (AllReadyH.cons (o := ⟨some 3, .alloc 26, 0, _, _, none⟩) rfl (fun K hK => ?_) AllReadyH.nil))
      · go_simp
        refine (i_bareHonest c _ _ _ _ _ _ _ _ _ _ _ _ _ hHeld.2.out.A hb1 HPB.out).mono ?_
        rintro e y2 ⟨⟨gh, ch, rfl, oh⟩, bz31⟩
        have Pz31 := hHeld.2.out.below bz31
        have b_gh : Bk w y2 gh (ints (HN c.bs c.bs.length)) := Bk.own oh (hHeld.2.out.X.lt (by simp))
        have hge : y1.heap.size ≤ gh := oh.data.2.1
        clear oh
        have n_pB_gh : pB ≠ gh := Nat.ne_of_lt (Nat.lt_of_lt_of_le b_pB.lt hge)
        replace b_pB := b_pB.below bz31
        clear bz31 hge
        try dsimp only
        refine hK.out _ _ ⟨⟨Pz31.X.cell 0 rfl, Pz31.X.cell 1 rfl, Pz31.X.cell 2 rfl, Pz31.X.cell 3 rfl, Pz31.X.cell 4 rfl, Pz31.X.cell 5 rfl, Pz31.X.cell 6 rfl, Pz31.X.cell 7 rfl, Pz31.X.cell 8 rfl, Pz31.X.cell 9 rfl, Pz31.X.cell 10 rfl, Pz31.X.cell 11 rfl, Pz31.X.cell 12 rfl⟩, Pz31⟩ ?_; clear hK K hHeld; intro hHeld; try simp only [Act.put, List.setIfInBounds_toArray, List.set_cons_zero, List.set_cons_succ]
        refine Tk.R 12 (some 3) (.alloc 26) 0 none (fun K hK => ?_)
        go_simp
        have Bz32 := (Below.refl y2.heap.size y2).alloc (Nat.le_refl _) (.cells #[.slice none 0 0] 26)
        have ltz32 := hHeld.2.out.X.lt (by simp)
        have Pz32 := hHeld.2.out.below Bz32
        obtain ⟨pA, h_pA⟩ : ∃ p, p = y2.heap.size := ⟨_, rfl⟩
        have b_pA := Bk.new (w := w) h_pA ltz32 [.slice none 0 0] 26
        have n_pB_pA : pB ≠ pA := by rw [h_pA]; exact Nat.ne_of_lt b_pB.lt
        replace b_pB := b_pB.below Bz32
        have n_gh_pA : gh ≠ pA := by rw [h_pA]; exact Nat.ne_of_lt b_gh.lt
        replace b_gh := b_gh.below Bz32
        rw [← h_pA]
        generalize y2.alloc (.cells #[.slice none 0 0] 26) = y3 at Pz32 b_pB b_gh b_pA ⊢
        clear Bz32 h_pA ltz32
        try dsimp only
        refine hK.out _ _ ⟨⟨Pz32.X.cell 0 rfl, Pz32.X.cell 1 rfl, Pz32.X.cell 2 rfl, Pz32.X.cell 3 rfl, Pz32.X.cell 4 rfl, Pz32.X.cell 5 rfl, Pz32.X.cell 6 rfl, Pz32.X.cell 7 rfl, Pz32.X.cell 8 rfl, Pz32.X.cell 9 rfl, Pz32.X.cell 10 rfl, Pz32.X.cell 11 rfl, Pz32.X.cell 12 rfl⟩, Pz32⟩ ?_; clear hK K hHeld; intro hHeld; try simp only [Act.put, List.setIfInBounds_toArray, List.set_cons_zero, List.set_cons_succ]
        refine Tk.R 14 none (.store 26 (.tmp 3) (.tmp 7)) 0 none (fun K hK => ?_)
        have f0 := b_pA.R.cell 0 rfl
        have q0 := b_pA.R.froz 0 rfl
        go_simp
        clear f0 q0
        have Pz330 := hHeld.2.out.of_mid (Mid.set y3 pA 0 (.slice (some ⟨gh, 0, none⟩) (HN c.bs c.bs.length).length ch)) b_pA.lo hA (by simp)
        replace b_pB := b_pB.other n_pB_pA.symm 0 (.slice (some ⟨gh, 0, none⟩) (HN c.bs c.bs.length).length ch)
        replace b_gh := b_gh.other n_gh_pA.symm 0 (.slice (some ⟨gh, 0, none⟩) (HN c.bs c.bs.length).length ch)
        replace b_pA := b_pA.set 0 (.slice (some ⟨gh, 0, none⟩) (HN c.bs c.bs.length).length ch)
        have Pz33 := Pz330
        clear Pz330
        generalize y3.setCell ⟨pA, 0, none⟩ (.slice (some ⟨gh, 0, none⟩) (HN c.bs c.bs.length).length ch) = y4 at Pz33 b_pB b_gh b_pA ⊢
        try dsimp only
        refine hK.out _ _ ⟨⟨Pz33.X.cell 0 rfl, Pz33.X.cell 1 rfl, Pz33.X.cell 2 rfl, Pz33.X.cell 3 rfl, Pz33.X.cell 4 rfl, Pz33.X.cell 5 rfl, Pz33.X.cell 6 rfl, Pz33.X.cell 7 rfl, Pz33.X.cell 8 rfl, Pz33.X.cell 9 rfl, Pz33.X.cell 10 rfl, Pz33.X.cell 11 rfl, Pz33.X.cell 12 rfl⟩, Pz33⟩ ?_; clear hK K hHeld; intro hHeld; try simp only [Act.put, List.setIfInBounds_toArray, List.set_cons_zero, List.set_cons_succ]
        refine Tk.R 15 none (.store 79 (.tmp 4) (.tmp 17)) 0 none (fun K hK => ?_)
        have f0 := b_pB.R.cell 0 rfl
        have q0 := b_pB.R.froz 0 rfl
        have f1 := b_pB.R.cell 1 rfl
        have q1 := b_pB.R.froz 1 rfl
        go_simp
        clear f0 q0 f1 q1
        have Pz340 := hHeld.2.out.of_mid (Mid.set y4 pB 0 (.int .i64 (c.now + 1))) b_pB.lo hA (by simp)
        replace b_gh := b_gh.other n_pB_gh 0 (.int .i64 (c.now + 1))
        replace b_pA := b_pA.other n_pB_pA 0 (.int .i64 (c.now + 1))
        replace b_pB := b_pB.set 0 (.int .i64 (c.now + 1))
        have Pz341 := Pz340.of_mid (Mid.set (y4.setCell ⟨pB, 0, none⟩ (.int .i64 (c.now + 1))) pB 1 (.int .i64 (c.now + c.m))) b_pB.lo hA (by simp)
        replace b_gh := b_gh.other n_pB_gh 1 (.int .i64 (c.now + c.m))
        replace b_pA := b_pA.other n_pB_pA 1 (.int .i64 (c.now + c.m))
        replace b_pB := b_pB.set 1 (.int .i64 (c.now + c.m))
        have Pz34 := Pz341
        clear Pz340 Pz341
        generalize (y4.setCell ⟨pB, 0, none⟩ (.int .i64 (c.now + 1))).setCell ⟨pB, 1, none⟩ (.int .i64 (c.now + c.m)) = y5 at Pz34 b_pB b_gh b_pA ⊢
        try dsimp only
        refine hK.out _ _ ⟨⟨Pz34.X.cell 0 rfl, Pz34.X.cell 1 rfl, Pz34.X.cell 2 rfl, Pz34.X.cell 3 rfl, Pz34.X.cell 4 rfl, Pz34.X.cell 5 rfl, Pz34.X.cell 6 rfl, Pz34.X.cell 7 rfl, Pz34.X.cell 8 rfl, Pz34.X.cell 9 rfl, Pz34.X.cell 10 rfl, Pz34.X.cell 11 rfl, Pz34.X.cell 12 rfl⟩, Pz34⟩ ?_; clear hK K hHeld; intro hHeld; try simp only [Act.put, List.setIfInBounds_toArray, List.set_cons_zero, List.set_cons_succ]
        refine wpAnyH_done (by kernel_rfl) ?_ _
        refine NoPanic.normal ?_
        have PX := hHeld.2.out
        clear hHeld
        go_wp2_with fail
        go_meet
        case rel => exact ⟨pA, pB, gh, ch, rfl, rfl, ⟨PX, b_pA, b_pB, b_gh⟩⟩
      · go_simp
        have Bz35 := (Below.refl y1.heap.size y1).alloc (Nat.le_refl _) (.cells #[.slice none 0 0] 26)
        have ltz35 := hHeld.2.out.X.lt (by simp)
        have Pz35 := hHeld.2.out.below Bz35
        obtain ⟨pA, h_pA⟩ : ∃ p, p = y1.heap.size := ⟨_, rfl⟩
        have b_pA := Bk.new (w := w) h_pA ltz35 [.slice none 0 0] 26
        have n_pB_pA : pB ≠ pA := by rw [h_pA]; exact Nat.ne_of_lt b_pB.lt
        replace b_pB := b_pB.below Bz35
        rw [← h_pA]
        generalize y1.alloc (.cells #[.slice none 0 0] 26) = y2 at Pz35 b_pB b_pA ⊢
        clear Bz35 h_pA ltz35
        try dsimp only
        refine hK.out _ _ ⟨⟨Pz35.X.cell 0 rfl, Pz35.X.cell 1 rfl, Pz35.X.cell 2 rfl, Pz35.X.cell 3 rfl, Pz35.X.cell 4 rfl, Pz35.X.cell 5 rfl, Pz35.X.cell 6 rfl, Pz35.X.cell 7 rfl, Pz35.X.cell 8 rfl, Pz35.X.cell 9 rfl, Pz35.X.cell 10 rfl, Pz35.X.cell 11 rfl, Pz35.X.cell 12 rfl⟩, Pz35⟩ ?_; clear hK K hHeld; intro hHeld; try simp only [Act.put, List.setIfInBounds_toArray, List.set_cons_zero, List.set_cons_succ]
        refine Tk.R 1 (some 7) (.call ⟨.value (.func 49), #[.tmp 6], #[35]⟩) 26 none (fun K hK => ?_)
        go_simp
        refine (i_bareHonest c _ _ _ _ _ _ _ _ _ _ _ _ _ hHeld.2.out.A hb1 HPB.out).mono ?_
        rintro e y3 ⟨⟨gh, ch, rfl, oh⟩, bz36⟩
        have Pz36 := hHeld.2.out.below bz36
        have b_gh : Bk w y3 gh (ints (HN c.bs c.bs.length)) := Bk.own oh (hHeld.2.out.X.lt (by simp))
        have hge : y2.heap.size ≤ gh := oh.data.2.1
        clear oh
        have n_pB_gh : pB ≠ gh := Nat.ne_of_lt (Nat.lt_of_lt_of_le b_pB.lt hge)
        replace b_pB := b_pB.below bz36
        have n_pA_gh : pA ≠ gh := Nat.ne_of_lt (Nat.lt_of_lt_of_le b_pA.lt hge)
        replace b_pA := b_pA.below bz36
        clear bz36 hge
        try dsimp only
        refine hK.out _ _ ⟨⟨Pz36.X.cell 0 rfl, Pz36.X.cell 1 rfl, Pz36.X.cell 2 rfl, Pz36.X.cell 3 rfl, Pz36.X.cell 4 rfl, Pz36.X.cell 5 rfl, Pz36.X.cell 6 rfl, Pz36.X.cell 7 rfl, Pz36.X.cell 8 rfl, Pz36.X.cell 9 rfl, Pz36.X.cell 10 rfl, Pz36.X.cell 11 rfl, Pz36.X.cell 12 rfl⟩, Pz36⟩ ?_; clear hK K hHeld; intro hHeld; try simp only [Act.put, List.setIfInBounds_toArray, List.set_cons_zero, List.set_cons_succ]
        refine Tk.R 14 none (.store 26 (.tmp 3) (.tmp 7)) 0 none (fun K hK => ?_)
        have f0 := b_pA.R.cell 0 rfl
        have q0 := b_pA.R.froz 0 rfl
        go_simp
        clear f0 q0
        have Pz370 := hHeld.2.out.of_mid (Mid.set y3 pA 0 (.slice (some ⟨gh, 0, none⟩) (HN c.bs c.bs.length).length ch)) b_pA.lo hA (by simp)
        replace b_pB := b_pB.other n_pB_pA.symm 0 (.slice (some ⟨gh, 0, none⟩) (HN c.bs c.bs.length).length ch)
        replace b_gh := b_gh.other n_pA_gh 0 (.slice (some ⟨gh, 0, none⟩) (HN c.bs c.bs.length).length ch)
        replace b_pA := b_pA.set 0 (.slice (some ⟨gh, 0, none⟩) (HN c.bs c.bs.length).length ch)
        have Pz37 := Pz370
        clear Pz370
        generalize y3.setCell ⟨pA, 0, none⟩ (.slice (some ⟨gh, 0, none⟩) (HN c.bs c.bs.length).length ch) = y4 at Pz37 b_pB b_pA b_gh ⊢
        try dsimp only
        refine hK.out _ _ ⟨⟨Pz37.X.cell 0 rfl, Pz37.X.cell 1 rfl, Pz37.X.cell 2 rfl, Pz37.X.cell 3 rfl, Pz37.X.cell 4 rfl, Pz37.X.cell 5 rfl, Pz37.X.cell 6 rfl, Pz37.X.cell 7 rfl, Pz37.X.cell 8 rfl, Pz37.X.cell 9 rfl, Pz37.X.cell 10 rfl, Pz37.X.cell 11 rfl, Pz37.X.cell 12 rfl⟩, Pz37⟩ ?_; clear hK K hHeld; intro hHeld; try simp only [Act.put, List.setIfInBounds_toArray, List.set_cons_zero, List.set_cons_succ]
        refine Tk.R 15 none (.store 79 (.tmp 4) (.tmp 17)) 0 none (fun K hK => ?_)
        have f0 := b_pB.R.cell 0 rfl
        have q0 := b_pB.R.froz 0 rfl
        have f1 := b_pB.R.cell 1 rfl
        have q1 := b_pB.R.froz 1 rfl
        go_simp
        clear f0 q0 f1 q1
        have Pz380 := hHeld.2.out.of_mid (Mid.set y4 pB 0 (.int .i64 (c.now + 1))) b_pB.lo hA (by simp)
        replace b_pA := b_pA.other n_pB_pA 0 (.int .i64 (c.now + 1))
        replace b_gh := b_gh.other n_pB_gh 0 (.int .i64 (c.now + 1))
        replace b_pB := b_pB.set 0 (.int .i64 (c.now + 1))
        have Pz381 := Pz380.of_mid (Mid.set (y4.setCell ⟨pB, 0, none⟩ (.int .i64 (c.now + 1))) pB 1 (.int .i64 (c.now + c.m))) b_pB.lo hA (by simp)
        replace b_pA := b_pA.other n_pB_pA 1 (.int .i64 (c.now + c.m))
        replace b_gh := b_gh.other n_pB_gh 1 (.int .i64 (c.now + c.m))
        replace b_pB := b_pB.set 1 (.int .i64 (c.now + c.m))
        have Pz38 := Pz381
        clear Pz380 Pz381
        generalize (y4.setCell ⟨pB, 0, none⟩ (.int .i64 (c.now + 1))).setCell ⟨pB, 1, none⟩ (.int .i64 (c.now + c.m)) = y5 at Pz38 b_pB b_pA b_gh ⊢
        try dsimp only
        refine hK.out _ _ ⟨⟨Pz38.X.cell 0 rfl, Pz38.X.cell 1 rfl, Pz38.X.cell 2 rfl, Pz38.X.cell 3 rfl, Pz38.X.cell 4 rfl, Pz38.X.cell 5 rfl, Pz38.X.cell 6 rfl, Pz38.X.cell 7 rfl, Pz38.X.cell 8 rfl, Pz38.X.cell 9 rfl, Pz38.X.cell 10 rfl, Pz38.X.cell 11 rfl, Pz38.X.cell 12 rfl⟩, Pz38⟩ ?_; clear hK K hHeld; intro hHeld; try simp only [Act.put, List.setIfInBounds_toArray, List.set_cons_zero, List.set_cons_succ]
        refine wpAnyH_done (by kernel_rfl) ?_ _
        refine NoPanic.normal ?_
        have PX := hHeld.2.out
        clear hHeld
        go_wp2_with fail
        go_meet
        case rel => exact ⟨pA, pB, gh, ch, rfl, rfl, ⟨PX, b_pA, b_pB, b_gh⟩⟩
  case rest =>
    obtain ⟨pA, pB, gh, ch, rfl, rfl, HP⟩ := hcut
    obtain ⟨PX, bA, bB, bC⟩ := HP.out
    clear HP PB hw1 hw2
    have HE : Hid (HEParcels pB pA w.heap.size aQ c.qs.length (fun k => !QK c (qd c.qs k)) wc) := fun k hk => by
      obtain ⟨_, hz0 | ⟨b, off, rfl, hb, hq⟩⟩ := id hA.Q
      · omega
      obtain ⟨aS, cS, q1, q2⟩ := hq k hk
      refine ⟨b, off, (qd c.qs k).1, (qd c.qs k).2.1, aS, (qd c.qs k).2.2.length, cS, rfl, fun w' B' => ?_, fun w' B' => ?_⟩
      · have q : ∀ o, w'.cell? ⟨b, o, none⟩ = w.cell? ⟨b, o, none⟩ := fun o => (PX.B.trans (B'.mono PX.B.size)).cell (p := ⟨b, o, none⟩) hb
        simp only [q]
        exact q1
      · have t := parcelF pB pA w.heap.size (c.now + 1) (c.now + c.m) (some ⟨gh, 0, none⟩) (HN c.bs c.bs.length).length ch (HN c.bs c.bs.length) aK cK c.zs (qd c.qs k).1 (qd c.qs k).2.1 aS cS (qd c.qs k).2.2 w' ((bB.R.below B').cell 0 rfl) ((bB.R.below B').cell 1 rfl) ((bA.R.below B').cell 0 rfl) ((PX.X.below B').cell 6 rfl) (bC.below B').row (by have := hn_len c.bs c.bs.length; omega) (PX.below B').A.K hz.K (q2.below (PX.below B').B) (hz.Q2 k hk)
        rw [qk_or (c := c) (qd c.qs k)] at t
        exact t
    by_cases h3 : c.qs.length ≤ 3000
    · have d3 : decide ((c.qs.length : Int) ≤ 3000) = true := decide_eq_true (by omega)
      have HV : Hid (PQ c = !AN (fun k => !QK c (qd c.qs k)) c.qs.length) := pq_an h3
      have H3 := hid h3
      clear h3
      have k9 := PX.X.cell 9 rfl
      go_wp2_with fail
      clear k9
      refine (containsParcels pB pA w.heap.size aQ c.qs.length cQ (fun k => !QK c (qd c.qs k)) _ (by have := H3.out; omega) HE.out).mono ?_
      rintro e w9 ⟨rfl, b9⟩
      go_wp2
      go_ret
      exact ⟨retb HV.out.symm, PX.B.trans (b9.mono PX.B.size)⟩
    · have d3 : decide ((c.qs.length : Int) ≤ 3000) = false := decide_eq_false (by omega)
      have HV : Hid (PQ c = false) := pq_no h3
      clear h3 HE
      have k9 := PX.X.cell 9 rfl
      go_wp2
      go_ret
      exact ⟨retb HV.out.symm, PX.B⟩

set_option maxHeartbeats 16000000 in
set_option maxRecDepth 100000 in
theorem i_factsOk (c : CD) (aK aL aP aQ aM aF : Option Addr) (cK cL cP cQ cM cF : Nat) (w : World) (hA : c.At w aK aL aP aQ aM aF) (hz : c.Sm) (hpl : c.ps.length = c.bs.length) :
    Calls Tryz.prog 54 #[.agg #[.int .i64 c.n, .int .i64 c.f, .int .i64 c.p, .int .i64 c.a, .int .i64 c.l, .int .i64 c.m, .slice aK c.zs.length cK, .slice aL c.bs.length cL, .slice aP c.ps.length cP, .slice aQ c.qs.length cQ, .int .i64 c.now, .slice aM c.ms.length cM, .slice aF c.fs.length cF]] w fun e w' => e = .returned (.bool (PF c)) ∧ Below w.heap.size w w' := by
  have hb1 := hz.L
  have HPB : Hid (c.ps.length = c.bs.length) := hpl
  have PB : Kb c aK aL aP aQ aM aF w (w.alloc (.cells #[.int .i64 c.n, .int .i64 c.f, .int .i64 c.p, .int .i64 c.a, .int .i64 c.l, .int .i64 c.m, .slice aK c.zs.length cK, .slice aL c.bs.length cL, .slice aP c.ps.length cP, .slice aQ c.qs.length cQ, .int .i64 c.now, .slice aM c.ms.length cM, .slice aF c.fs.length cF] 35)) [.int .i64 c.n, .int .i64 c.f, .int .i64 c.p, .int .i64 c.a, .int .i64 c.l, .int .i64 c.m, .slice aK c.zs.length cK, .slice aL c.bs.length cL, .slice aP c.ps.length cP, .slice aQ c.qs.length cQ, .int .i64 c.now, .slice aM c.ms.length cM, .slice aF c.fs.length cF] := ⟨(Below.refl _ _).alloc (Nat.le_refl _) _, Room.new w [.int .i64 c.n, .int .i64 c.f, .int .i64 c.p, .int .i64 c.a, .int .i64 c.l, .int .i64 c.m, .slice aK c.zs.length cK, .slice aL c.bs.length cL, .slice aP c.ps.length cP, .slice aQ c.qs.length cQ, .int .i64 c.now, .slice aM c.ms.length cM, .slice aF c.fs.length cF] 35, hA.below ((Below.refl _ _).alloc (Nat.le_refl _) _)⟩
  clear hpl
  go_enter Tryz.func54, Tryz.ntmps54
  go_wp2_with fail
  generalize w.alloc (.cells #[.int .i64 c.n, .int .i64 c.f, .int .i64 c.p, .int .i64 c.a, .int .i64 c.l, .int .i64 c.m, .slice aK c.zs.length cK, .slice aL c.bs.length cL, .slice aP c.ps.length cP, .slice aQ c.qs.length cQ, .int .i64 c.now, .slice aM c.ms.length cM, .slice aF c.fs.length cF] 35) = w1 at PB ⊢
  go_cut [3, 4, 5] from 7 (fun p3 p4 p5 wc => ∃ (pA pB pD gh ch : Nat), p3 = .pointer (some ⟨pA, 0, none⟩) ∧ p4 = .pointer (some ⟨pB, 0, none⟩) ∧ p5 = .pointer (some ⟨pD, 0, none⟩) ∧ Hid (Kb c aK aL aP aQ aM aF w wc [.int .i64 c.n, .int .i64 c.f, .int .i64 c.p, .int .i64 c.a, .int .i64 c.l, .int .i64 c.m, .slice aK c.zs.length cK, .slice aL c.bs.length cL, .slice aP c.ps.length cP, .slice aQ c.qs.length cQ, .int .i64 c.now, .slice aM c.ms.length cM, .slice aF c.fs.length cF] ∧ Bk w wc pA [.slice (some ⟨gh, 0, none⟩) (HN c.bs c.bs.length).length ch] ∧ Bk w wc pB [.int .i64 1, .int .i64 1000] ∧ Bk w wc pD [.int .i64 0, .int .i64 c.now] ∧ Bk w wc gh (ints (HN c.bs c.bs.length))))
  case first =>
    refine wp_region_noPanic ?_
    refine wp_region_held_drew (S := (fun w' => (w'.cell? ⟨w.heap.size, 0, none⟩ = some (.int .i64 c.n) ∧ w'.cell? ⟨w.heap.size, 1, none⟩ = some (.int .i64 c.f) ∧ w'.cell? ⟨w.heap.size, 2, none⟩ = some (.int .i64 c.p) ∧ w'.cell? ⟨w.heap.size, 3, none⟩ = some (.int .i64 c.a) ∧ w'.cell? ⟨w.heap.size, 4, none⟩ = some (.int .i64 c.l) ∧ w'.cell? ⟨w.heap.size, 5, none⟩ = some (.int .i64 c.m) ∧ w'.cell? ⟨w.heap.size, 6, none⟩ = some (.slice aK c.zs.length cK) ∧ w'.cell? ⟨w.heap.size, 7, none⟩ = some (.slice aL c.bs.length cL) ∧ w'.cell? ⟨w.heap.size, 8, none⟩ = some (.slice aP c.ps.length cP) ∧ w'.cell? ⟨w.heap.size, 9, none⟩ = some (.slice aQ c.qs.length cQ) ∧ w'.cell? ⟨w.heap.size, 10, none⟩ = some (.int .i64 c.now) ∧ w'.cell? ⟨w.heap.size, 11, none⟩ = some (.slice aM c.ms.length cM) ∧ w'.cell? ⟨w.heap.size, 12, none⟩ = some (.slice aF c.fs.length cF)) ∧ Hid (Kb c aK aL aP aQ aM aF w w' [.int .i64 c.n, .int .i64 c.f, .int .i64 c.p, .int .i64 c.a, .int .i64 c.l, .int .i64 c.m, .slice aK c.zs.length cK, .slice aL c.bs.length cL, .slice aP c.ps.length cP, .slice aQ c.qs.length cQ, .int .i64 c.now, .slice aM c.ms.length cM, .slice aF c.fs.length cF]))) (by kernel_rfl) ⟨⟨(PB.below (Below.refl _ _).drew).X.cell 0 rfl, (PB.below (Below.refl _ _).drew).X.cell 1 rfl, (PB.below (Below.refl _ _).drew).X.cell 2 rfl, (PB.below (Below.refl _ _).drew).X.cell 3 rfl, (PB.below (Below.refl _ _).drew).X.cell 4 rfl, (PB.below (Below.refl _ _).drew).X.cell 5 rfl, (PB.below (Below.refl _ _).drew).X.cell 6 rfl, (PB.below (Below.refl _ _).drew).X.cell 7 rfl, (PB.below (Below.refl _ _).drew).X.cell 8 rfl, (PB.below (Below.refl _ _).drew).X.cell 9 rfl, (PB.below (Below.refl _ _).drew).X.cell 10 rfl, (PB.below (Below.refl _ _).drew).X.cell 11 rfl, (PB.below (Below.refl _ _).drew).X.cell 12 rfl⟩, (PB.below (Below.refl _ _).drew)⟩ (fun hHeld => ?_)
    generalize w1.drew = y0 at hHeld ⊢
    refine Tk.W 0 (some 7) (.load 35 (.tmp 1)) 35 none ?_
    refine Tk.W 2 (some 9) (.build 79 #[(0, .const (.int .i64 1)), (1, .const (.int .i64 1000))]) 79 none ?_
    refine Tk.W 3 (some 10) (.fieldAddr 35 (.tmp 1) 5) 0 none ?_
    refine Tk.W 4 (some 11) (.load 2 (.tmp 10)) 2 none ?_
    refine Tk.W 5 (some 12) (.build 79 #[(0, .const (.int .i64 0)), (1, .tmp 11)]) 79 none ?_
    refine wpAnyH_ready (rs := [1, 6, 7, 8]) (by kernel_rfl) (by simp) ?_
    refine (AllReadyH.cons (o := ⟨some 8, .call ⟨.value (.func 49), #[.tmp 7], #[35]⟩, 26, _, _, none⟩) rfl (fun K hK => ?_) (AllReadyH.cons (o := ⟨some 3, .alloc 26, 0, _, _, none⟩) rfl (fun K hK => ?_) (AllReadyH.cons (o := ⟨some 4, .alloc 79, 0, _, _, none⟩) rfl (fun K hK => ?_) (AllReadyH.cons (o := ⟨some 5, .alloc 79, 0, _, _, none⟩) rfl (fun K hK => ?_) AllReadyH.nil))))
    · go_simp
      refine (i_bareHonest c _ _ _ _ _ _ _ _ _ _ _ _ _ hHeld.2.out.A hb1 HPB.out).mono ?_
      rintro e y1 ⟨⟨gh, ch, rfl, oh⟩, by6⟩
      have Py6 := hHeld.2.out.below by6
      have b_gh : Bk w y1 gh (ints (HN c.bs c.bs.length)) := Bk.own oh (hHeld.2.out.X.lt (by simp))
      have hge : y0.heap.size ≤ gh := oh.data.2.1
      clear oh
      clear by6 hge
      try dsimp only
      refine hK.out _ _ ⟨⟨Py6.X.cell 0 rfl, Py6.X.cell 1 rfl, Py6.X.cell 2 rfl, Py6.X.cell 3 rfl, Py6.X.cell 4 rfl, Py6.X.cell 5 rfl, Py6.X.cell 6 rfl, Py6.X.cell 7 rfl, Py6.X.cell 8 rfl, Py6.X.cell 9 rfl, Py6.X.cell 10 rfl, Py6.X.cell 11 rfl, Py6.X.cell 12 rfl⟩, Py6⟩ ?_; clear hK K hHeld; intro hHeld; try simp only [Act.put, List.setIfInBounds_toArray, List.set_cons_zero, List.set_cons_succ]
      refine wpAnyH_ready (rs := [6, 7, 8]) (by kernel_rfl) (by simp) ?_
      refine (AllReadyH.cons (o := ⟨some 3, .alloc 26, 0, _, _, none⟩) rfl (fun K hK => ?_) (AllReadyH.cons (o := ⟨some 4, .alloc 79, 0, _, _, none⟩) rfl (fun K hK => ?_) (AllReadyH.cons (o := ⟨some 5, .alloc 79, 0, _, _, none⟩) rfl (fun K hK => ?_) AllReadyH.nil)))
      · go_simp
        have By7 := (Below.refl y1.heap.size y1).alloc (Nat.le_refl _) (.cells #[.slice none 0 0] 26)
        have lty7 := hHeld.2.out.X.lt (by simp)
        have Py7 := hHeld.2.out.below By7
        obtain ⟨pA, h_pA⟩ : ∃ p, p = y1.heap.size := ⟨_, rfl⟩
        have b_pA := Bk.new (w := w) h_pA lty7 [.slice none 0 0] 26
        have n_gh_pA : gh ≠ pA := by rw [h_pA]; exact Nat.ne_of_lt b_gh.lt
        replace b_gh := b_gh.below By7
        rw [← h_pA]
        generalize y1.alloc (.cells #[.slice none 0 0] 26) = y2 at Py7 b_gh b_pA ⊢
        clear By7 h_pA lty7
        try dsimp only
        refine hK.out _ _ ⟨⟨Py7.X.cell 0 rfl, Py7.X.cell 1 rfl, Py7.X.cell 2 rfl, Py7.X.cell 3 rfl, Py7.X.cell 4 rfl, Py7.X.cell 5 rfl, Py7.X.cell 6 rfl, Py7.X.cell 7 rfl, Py7.X.cell 8 rfl, Py7.X.cell 9 rfl, Py7.X.cell 10 rfl, Py7.X.cell 11 rfl, Py7.X.cell 12 rfl⟩, Py7⟩ ?_; clear hK K hHeld; intro hHeld; try simp only [Act.put, List.setIfInBounds_toArray, List.set_cons_zero, List.set_cons_succ]
        refine wpAnyH_ready (rs := [7, 8]) (by kernel_rfl) (by simp) ?_
        refine (AllReadyH.cons (o := ⟨some 4, .alloc 79, 0, _, _, none⟩) rfl (fun K hK => ?_) (AllReadyH.cons (o := ⟨some 5, .alloc 79, 0, _, _, none⟩) rfl (fun K hK => ?_) AllReadyH.nil))
        · go_simp
          have By8 := (Below.refl y2.heap.size y2).alloc (Nat.le_refl _) (.cells #[.int .i64 0, .int .i64 0] 79)
          have lty8 := hHeld.2.out.X.lt (by simp)
          have Py8 := hHeld.2.out.below By8
          obtain ⟨pB, h_pB⟩ : ∃ p, p = y2.heap.size := ⟨_, rfl⟩
          have b_pB := Bk.new (w := w) h_pB lty8 [.int .i64 0, .int .i64 0] 79
          have n_gh_pB : gh ≠ pB := by rw [h_pB]; exact Nat.ne_of_lt b_gh.lt
          replace b_gh := b_gh.below By8
          have n_pA_pB : pA ≠ pB := by rw [h_pB]; exact Nat.ne_of_lt b_pA.lt
          replace b_pA := b_pA.below By8
          rw [← h_pB]
          generalize y2.alloc (.cells #[.int .i64 0, .int .i64 0] 79) = y3 at Py8 b_gh b_pA b_pB ⊢
          clear By8 h_pB lty8
          try dsimp only
          refine hK.out _ _ ⟨⟨Py8.X.cell 0 rfl, Py8.X.cell 1 rfl, Py8.X.cell 2 rfl, Py8.X.cell 3 rfl, Py8.X.cell 4 rfl, Py8.X.cell 5 rfl, Py8.X.cell 6 rfl, Py8.X.cell 7 rfl, Py8.X.cell 8 rfl, Py8.X.cell 9 rfl, Py8.X.cell 10 rfl, Py8.X.cell 11 rfl, Py8.X.cell 12 rfl⟩, Py8⟩ ?_; clear hK K hHeld; intro hHeld; try simp only [Act.put, List.setIfInBounds_toArray, List.set_cons_zero, List.set_cons_succ]
          refine Tk.R 8 (some 5) (.alloc 79) 0 none (fun K hK => ?_)
          go_simp
          have By9 := (Below.refl y3.heap.size y3).alloc (Nat.le_refl _) (.cells #[.int .i64 0, .int .i64 0] 79)
          have lty9 := hHeld.2.out.X.lt (by simp)
          have Py9 := hHeld.2.out.below By9
          obtain ⟨pD, h_pD⟩ : ∃ p, p = y3.heap.size := ⟨_, rfl⟩
          have b_pD := Bk.new (w := w) h_pD lty9 [.int .i64 0, .int .i64 0] 79
          have n_gh_pD : gh ≠ pD := by rw [h_pD]; exact Nat.ne_of_lt b_gh.lt
          replace b_gh := b_gh.below By9
          have n_pA_pD : pA ≠ pD := by rw [h_pD]; exact Nat.ne_of_lt b_pA.lt
          replace b_pA := b_pA.below By9
          have n_pB_pD : pB ≠ pD := by rw [h_pD]; exact Nat.ne_of_lt b_pB.lt
          replace b_pB := b_pB.below By9
          rw [← h_pD]
          generalize y3.alloc (.cells #[.int .i64 0, .int .i64 0] 79) = y4 at Py9 b_gh b_pA b_pB b_pD ⊢
          clear By9 h_pD lty9
          try dsimp only
          refine hK.out _ _ ⟨⟨Py9.X.cell 0 rfl, Py9.X.cell 1 rfl, Py9.X.cell 2 rfl, Py9.X.cell 3 rfl, Py9.X.cell 4 rfl, Py9.X.cell 5 rfl, Py9.X.cell 6 rfl, Py9.X.cell 7 rfl, Py9.X.cell 8 rfl, Py9.X.cell 9 rfl, Py9.X.cell 10 rfl, Py9.X.cell 11 rfl, Py9.X.cell 12 rfl⟩, Py9⟩ ?_; clear hK K hHeld; intro hHeld; try simp only [Act.put, List.setIfInBounds_toArray, List.set_cons_zero, List.set_cons_succ]
          refine Tk.R 9 none (.store 26 (.tmp 3) (.tmp 8)) 0 none (fun K hK => ?_)
          have f0 := b_pA.R.cell 0 rfl
          have q0 := b_pA.R.froz 0 rfl
          go_simp
          clear f0 q0
          have Py100 := hHeld.2.out.of_mid (Mid.set y4 pA 0 (.slice (some ⟨gh, 0, none⟩) (HN c.bs c.bs.length).length ch)) b_pA.lo hA (by simp)
          replace b_gh := b_gh.other n_gh_pA.symm 0 (.slice (some ⟨gh, 0, none⟩) (HN c.bs c.bs.length).length ch)
          replace b_pB := b_pB.other n_pA_pB 0 (.slice (some ⟨gh, 0, none⟩) (HN c.bs c.bs.length).length ch)
          replace b_pD := b_pD.other n_pA_pD 0 (.slice (some ⟨gh, 0, none⟩) (HN c.bs c.bs.length).length ch)
          replace b_pA := b_pA.set 0 (.slice (some ⟨gh, 0, none⟩) (HN c.bs c.bs.length).length ch)
          have Py10 := Py100
          clear Py100
          generalize y4.setCell ⟨pA, 0, none⟩ (.slice (some ⟨gh, 0, none⟩) (HN c.bs c.bs.length).length ch) = y5 at Py10 b_gh b_pA b_pB b_pD ⊢
          try dsimp only
          refine hK.out _ _ ⟨⟨Py10.X.cell 0 rfl, Py10.X.cell 1 rfl, Py10.X.cell 2 rfl, Py10.X.cell 3 rfl, Py10.X.cell 4 rfl, Py10.X.cell 5 rfl, Py10.X.cell 6 rfl, Py10.X.cell 7 rfl, Py10.X.cell 8 rfl, Py10.X.cell 9 rfl, Py10.X.cell 10 rfl, Py10.X.cell 11 rfl, Py10.X.cell 12 rfl⟩, Py10⟩ ?_; clear hK K hHeld; intro hHeld; try simp only [Act.put, List.setIfInBounds_toArray, List.set_cons_zero, List.set_cons_succ]
          refine Tk.R 10 none (.store 79 (.tmp 4) (.tmp 9)) 0 none (fun K hK => ?_)
          have f0 := b_pB.R.cell 0 rfl
          have q0 := b_pB.R.froz 0 rfl
          have f1 := b_pB.R.cell 1 rfl
          have q1 := b_pB.R.froz 1 rfl
          go_simp
          clear f0 q0 f1 q1
          have Py110 := hHeld.2.out.of_mid (Mid.set y5 pB 0 (.int .i64 1)) b_pB.lo hA (by simp)
          replace b_gh := b_gh.other n_gh_pB.symm 0 (.int .i64 1)
          replace b_pA := b_pA.other n_pA_pB.symm 0 (.int .i64 1)
          replace b_pD := b_pD.other n_pB_pD 0 (.int .i64 1)
          replace b_pB := b_pB.set 0 (.int .i64 1)
          have Py111 := Py110.of_mid (Mid.set (y5.setCell ⟨pB, 0, none⟩ (.int .i64 1)) pB 1 (.int .i64 1000)) b_pB.lo hA (by simp)
          replace b_gh := b_gh.other n_gh_pB.symm 1 (.int .i64 1000)
          replace b_pA := b_pA.other n_pA_pB.symm 1 (.int .i64 1000)
          replace b_pD := b_pD.other n_pB_pD 1 (.int .i64 1000)
          replace b_pB := b_pB.set 1 (.int .i64 1000)
          have Py11 := Py111
          clear Py110 Py111
          generalize (y5.setCell ⟨pB, 0, none⟩ (.int .i64 1)).setCell ⟨pB, 1, none⟩ (.int .i64 1000) = y6 at Py11 b_gh b_pA b_pB b_pD ⊢
          try dsimp only
          refine hK.out _ _ ⟨⟨Py11.X.cell 0 rfl, Py11.X.cell 1 rfl, Py11.X.cell 2 rfl, Py11.X.cell 3 rfl, Py11.X.cell 4 rfl, Py11.X.cell 5 rfl, Py11.X.cell 6 rfl, Py11.X.cell 7 rfl, Py11.X.cell 8 rfl, Py11.X.cell 9 rfl, Py11.X.cell 10 rfl, Py11.X.cell 11 rfl, Py11.X.cell 12 rfl⟩, Py11⟩ ?_; clear hK K hHeld; intro hHeld; try simp only [Act.put, List.setIfInBounds_toArray, List.set_cons_zero, List.set_cons_succ]
          refine Tk.R 11 none (.store 79 (.tmp 5) (.tmp 12)) 0 none (fun K hK => ?_)
          have f0 := b_pD.R.cell 0 rfl
          have q0 := b_pD.R.froz 0 rfl
          have f1 := b_pD.R.cell 1 rfl
          have q1 := b_pD.R.froz 1 rfl
          go_simp
          clear f0 q0 f1 q1
          have Py120 := hHeld.2.out.of_mid (Mid.set y6 pD 0 (.int .i64 0)) b_pD.lo hA (by simp)
          replace b_gh := b_gh.other n_gh_pD.symm 0 (.int .i64 0)
          replace b_pA := b_pA.other n_pA_pD.symm 0 (.int .i64 0)
          replace b_pB := b_pB.other n_pB_pD.symm 0 (.int .i64 0)
          replace b_pD := b_pD.set 0 (.int .i64 0)
          have Py121 := Py120.of_mid (Mid.set (y6.setCell ⟨pD, 0, none⟩ (.int .i64 0)) pD 1 (.int .i64 c.now)) b_pD.lo hA (by simp)
          replace b_gh := b_gh.other n_gh_pD.symm 1 (.int .i64 c.now)
          replace b_pA := b_pA.other n_pA_pD.symm 1 (.int .i64 c.now)
          replace b_pB := b_pB.other n_pB_pD.symm 1 (.int .i64 c.now)
          replace b_pD := b_pD.set 1 (.int .i64 c.now)
          have Py12 := Py121
          clear Py120 Py121
          generalize (y6.setCell ⟨pD, 0, none⟩ (.int .i64 0)).setCell ⟨pD, 1, none⟩ (.int .i64 c.now) = y7 at Py12 b_gh b_pA b_pB b_pD ⊢
          try dsimp only
          refine hK.out _ _ ⟨⟨Py12.X.cell 0 rfl, Py12.X.cell 1 rfl, Py12.X.cell 2 rfl, Py12.X.cell 3 rfl, Py12.X.cell 4 rfl, Py12.X.cell 5 rfl, Py12.X.cell 6 rfl, Py12.X.cell 7 rfl, Py12.X.cell 8 rfl, Py12.X.cell 9 rfl, Py12.X.cell 10 rfl, Py12.X.cell 11 rfl, Py12.X.cell 12 rfl⟩, Py12⟩ ?_; clear hK K hHeld; intro hHeld; try simp only [Act.put, List.setIfInBounds_toArray, List.set_cons_zero, List.set_cons_succ]
          refine wpAnyH_done (by kernel_rfl) ?_ _
          refine NoPanic.normal ?_
          have PX := hHeld.2.out
          clear hHeld
          go_wp2_with fail
          go_meet
          case rel => exact ⟨pA, pB, pD, gh, ch, rfl, rfl, rfl, ⟨PX, b_pA, b_pB, b_pD, b_gh⟩⟩
        · go_simp
          have By13 := (Below.refl y2.heap.size y2).alloc (Nat.le_refl _) (.cells #[.int .i64 0, .int .i64 0] 79)
          have lty13 := hHeld.2.out.X.lt (by simp)
          have Py13 := hHeld.2.out.below By13
          obtain ⟨pD, h_pD⟩ : ∃ p, p = y2.heap.size := ⟨_, rfl⟩
          have b_pD := Bk.new (w := w) h_pD lty13 [.int .i64 0, .int .i64 0] 79
          have n_gh_pD : gh ≠ pD := by rw [h_pD]; exact Nat.ne_of_lt b_gh.lt
          replace b_gh := b_gh.below By13
          have n_pA_pD : pA ≠ pD := by rw [h_pD]; exact Nat.ne_of_lt b_pA.lt
          replace b_pA := b_pA.below By13
          rw [← h_pD]
          generalize y2.alloc (.cells #[.int .i64 0, .int .i64 0] 79) = y3 at Py13 b_gh b_pA b_pD ⊢
          clear By13 h_pD lty13
          try dsimp only
          refine hK.out _ _ ⟨⟨Py13.X.cell 0 rfl, Py13.X.cell 1 rfl, Py13.X.cell 2 rfl, Py13.X.cell 3 rfl, Py13.X.cell 4 rfl, Py13.X.cell 5 rfl, Py13.X.cell 6 rfl, Py13.X.cell 7 rfl, Py13.X.cell 8 rfl, Py13.X.cell 9 rfl, Py13.X.cell 10 rfl, Py13.X.cell 11 rfl, Py13.X.cell 12 rfl⟩, Py13⟩ ?_; clear hK K hHeld; intro hHeld; try simp only [Act.put, List.setIfInBounds_toArray, List.set_cons_zero, List.set_cons_succ]
          refine Tk.R 7 (some 4) (.alloc 79) 0 none (fun K hK => ?_)
          go_simp
          have By14 := (Below.refl y3.heap.size y3).alloc (Nat.le_refl _) (.cells #[.int .i64 0, .int .i64 0] 79)
          have lty14 := hHeld.2.out.X.lt (by simp)
          have Py14 := hHeld.2.out.below By14
          obtain ⟨pB, h_pB⟩ : ∃ p, p = y3.heap.size := ⟨_, rfl⟩
          have b_pB := Bk.new (w := w) h_pB lty14 [.int .i64 0, .int .i64 0] 79
          have n_gh_pB : gh ≠ pB := by rw [h_pB]; exact Nat.ne_of_lt b_gh.lt
          replace b_gh := b_gh.below By14
          have n_pA_pB : pA ≠ pB := by rw [h_pB]; exact Nat.ne_of_lt b_pA.lt
          replace b_pA := b_pA.below By14
          have n_pD_pB : pD ≠ pB := by rw [h_pB]; exact Nat.ne_of_lt b_pD.lt
          replace b_pD := b_pD.below By14
          rw [← h_pB]
          generalize y3.alloc (.cells #[.int .i64 0, .int .i64 0] 79) = y4 at Py14 b_gh b_pA b_pD b_pB ⊢
          clear By14 h_pB lty14
          try dsimp only
          refine hK.out _ _ ⟨⟨Py14.X.cell 0 rfl, Py14.X.cell 1 rfl, Py14.X.cell 2 rfl, Py14.X.cell 3 rfl, Py14.X.cell 4 rfl, Py14.X.cell 5 rfl, Py14.X.cell 6 rfl, Py14.X.cell 7 rfl, Py14.X.cell 8 rfl, Py14.X.cell 9 rfl, Py14.X.cell 10 rfl, Py14.X.cell 11 rfl, Py14.X.cell 12 rfl⟩, Py14⟩ ?_; clear hK K hHeld; intro hHeld; try simp only [Act.put, List.setIfInBounds_toArray, List.set_cons_zero, List.set_cons_succ]
          refine Tk.R 9 none (.store 26 (.tmp 3) (.tmp 8)) 0 none (fun K hK => ?_)
          have f0 := b_pA.R.cell 0 rfl
          have q0 := b_pA.R.froz 0 rfl
          go_simp
          clear f0 q0
          have Py150 := hHeld.2.out.of_mid (Mid.set y4 pA 0 (.slice (some ⟨gh, 0, none⟩) (HN c.bs c.bs.length).length ch)) b_pA.lo hA (by simp)
          replace b_gh := b_gh.other n_gh_pA.symm 0 (.slice (some ⟨gh, 0, none⟩) (HN c.bs c.bs.length).length ch)
          replace b_pD := b_pD.other n_pA_pD 0 (.slice (some ⟨gh, 0, none⟩) (HN c.bs c.bs.length).length ch)
          replace b_pB := b_pB.other n_pA_pB 0 (.slice (some ⟨gh, 0, none⟩) (HN c.bs c.bs.length).length ch)
          replace b_pA := b_pA.set 0 (.slice (some ⟨gh, 0, none⟩) (HN c.bs c.bs.length).length ch)
          have Py15 := Py150
          clear Py150
          generalize y4.setCell ⟨pA, 0, none⟩ (.slice (some ⟨gh, 0, none⟩) (HN c.bs c.bs.length).length ch) = y5 at Py15 b_gh b_pA b_pD b_pB ⊢
          try dsimp only
          refine hK.out _ _ ⟨⟨Py15.X.cell 0 rfl, Py15.X.cell 1 rfl, Py15.X.cell 2 rfl, Py15.X.cell 3 rfl, Py15.X.cell 4 rfl, Py15.X.cell 5 rfl, Py15.X.cell 6 rfl, Py15.X.cell 7 rfl, Py15.X.cell 8 rfl, Py15.X.cell 9 rfl, Py15.X.cell 10 rfl, Py15.X.cell 11 rfl, Py15.X.cell 12 rfl⟩, Py15⟩ ?_; clear hK K hHeld; intro hHeld; try simp only [Act.put, List.setIfInBounds_toArray, List.set_cons_zero, List.set_cons_succ]
          refine Tk.R 10 none (.store 79 (.tmp 4) (.tmp 9)) 0 none (fun K hK => ?_)
          have f0 := b_pB.R.cell 0 rfl
          have q0 := b_pB.R.froz 0 rfl
          have f1 := b_pB.R.cell 1 rfl
          have q1 := b_pB.R.froz 1 rfl
          go_simp
          clear f0 q0 f1 q1
          have Py160 := hHeld.2.out.of_mid (Mid.set y5 pB 0 (.int .i64 1)) b_pB.lo hA (by simp)
          replace b_gh := b_gh.other n_gh_pB.symm 0 (.int .i64 1)
          replace b_pA := b_pA.other n_pA_pB.symm 0 (.int .i64 1)
          replace b_pD := b_pD.other n_pD_pB.symm 0 (.int .i64 1)
          replace b_pB := b_pB.set 0 (.int .i64 1)
          have Py161 := Py160.of_mid (Mid.set (y5.setCell ⟨pB, 0, none⟩ (.int .i64 1)) pB 1 (.int .i64 1000)) b_pB.lo hA (by simp)
          replace b_gh := b_gh.other n_gh_pB.symm 1 (.int .i64 1000)
          replace b_pA := b_pA.other n_pA_pB.symm 1 (.int .i64 1000)
          replace b_pD := b_pD.other n_pD_pB.symm 1 (.int .i64 1000)
          replace b_pB := b_pB.set 1 (.int .i64 1000)
          have Py16 := Py161
          clear Py160 Py161
          generalize (y5.setCell ⟨pB, 0, none⟩ (.int .i64 1)).setCell ⟨pB, 1, none⟩ (.int .i64 1000) = y6 at Py16 b_gh b_pA b_pD b_pB ⊢
          try dsimp only
          refine hK.out _ _ ⟨⟨Py16.X.cell 0 rfl, Py16.X.cell 1 rfl, Py16.X.cell 2 rfl, Py16.X.cell 3 rfl, Py16.X.cell 4 rfl, Py16.X.cell 5 rfl, Py16.X.cell 6 rfl, Py16.X.cell 7 rfl, Py16.X.cell 8 rfl, Py16.X.cell 9 rfl, Py16.X.cell 10 rfl, Py16.X.cell 11 rfl, Py16.X.cell 12 rfl⟩, Py16⟩ ?_; clear hK K hHeld; intro hHeld; try simp only [Act.put, List.setIfInBounds_toArray, List.set_cons_zero, List.set_cons_succ]
          refine Tk.R 11 none (.store 79 (.tmp 5) (.tmp 12)) 0 none (fun K hK => ?_)
          have f0 := b_pD.R.cell 0 rfl
          have q0 := b_pD.R.froz 0 rfl
          have f1 := b_pD.R.cell 1 rfl
          have q1 := b_pD.R.froz 1 rfl
          go_simp
          clear f0 q0 f1 q1
          have Py170 := hHeld.2.out.of_mid (Mid.set y6 pD 0 (.int .i64 0)) b_pD.lo hA (by simp)
          replace b_gh := b_gh.other n_gh_pD.symm 0 (.int .i64 0)
          replace b_pA := b_pA.other n_pA_pD.symm 0 (.int .i64 0)
          replace b_pB := b_pB.other n_pD_pB 0 (.int .i64 0)
          replace b_pD := b_pD.set 0 (.int .i64 0)
          have Py171 := Py170.of_mid (Mid.set (y6.setCell ⟨pD, 0, none⟩ (.int .i64 0)) pD 1 (.int .i64 c.now)) b_pD.lo hA (by simp)
          replace b_gh := b_gh.other n_gh_pD.symm 1 (.int .i64 c.now)
          replace b_pA := b_pA.other n_pA_pD.symm 1 (.int .i64 c.now)
          replace b_pB := b_pB.other n_pD_pB 1 (.int .i64 c.now)
          replace b_pD := b_pD.set 1 (.int .i64 c.now)
          have Py17 := Py171
          clear Py170 Py171
          generalize (y6.setCell ⟨pD, 0, none⟩ (.int .i64 0)).setCell ⟨pD, 1, none⟩ (.int .i64 c.now) = y7 at Py17 b_gh b_pA b_pD b_pB ⊢
          try dsimp only
          refine hK.out _ _ ⟨⟨Py17.X.cell 0 rfl, Py17.X.cell 1 rfl, Py17.X.cell 2 rfl, Py17.X.cell 3 rfl, Py17.X.cell 4 rfl, Py17.X.cell 5 rfl, Py17.X.cell 6 rfl, Py17.X.cell 7 rfl, Py17.X.cell 8 rfl, Py17.X.cell 9 rfl, Py17.X.cell 10 rfl, Py17.X.cell 11 rfl, Py17.X.cell 12 rfl⟩, Py17⟩ ?_; clear hK K hHeld; intro hHeld; try simp only [Act.put, List.setIfInBounds_toArray, List.set_cons_zero, List.set_cons_succ]
          refine wpAnyH_done (by kernel_rfl) ?_ _
          refine NoPanic.normal ?_
          have PX := hHeld.2.out
          clear hHeld
          go_wp2_with fail
          go_meet
          case rel => exact ⟨pA, pB, pD, gh, ch, rfl, rfl, rfl, ⟨PX, b_pA, b_pB, b_pD, b_gh⟩⟩
      · go_simp
        have By18 := (Below.refl y1.heap.size y1).alloc (Nat.le_refl _) (.cells #[.int .i64 0, .int .i64 0] 79)
        have lty18 := hHeld.2.out.X.lt (by simp)
        have Py18 := hHeld.2.out.below By18
        obtain ⟨pB, h_pB⟩ : ∃ p, p = y1.heap.size := ⟨_, rfl⟩
        have b_pB := Bk.new (w := w) h_pB lty18 [.int .i64 0, .int .i64 0] 79
        have n_gh_pB : gh ≠ pB := by rw [h_pB]; exact Nat.ne_of_lt b_gh.lt
        replace b_gh := b_gh.below By18
        rw [← h_pB]
        generalize y1.alloc (.cells #[.int .i64 0, .int .i64 0] 79) = y2 at Py18 b_gh b_pB ⊢
        clear By18 h_pB lty18
        try dsimp only
        refine hK.out _ _ ⟨⟨Py18.X.cell 0 rfl, Py18.X.cell 1 rfl, Py18.X.cell 2 rfl, Py18.X.cell 3 rfl, Py18.X.cell 4 rfl, Py18.X.cell 5 rfl, Py18.X.cell 6 rfl, Py18.X.cell 7 rfl, Py18.X.cell 8 rfl, Py18.X.cell 9 rfl, Py18.X.cell 10 rfl, Py18.X.cell 11 rfl, Py18.X.cell 12 rfl⟩, Py18⟩ ?_; clear hK K hHeld; intro hHeld; try simp only [Act.put, List.setIfInBounds_toArray, List.set_cons_zero, List.set_cons_succ]
        refine wpAnyH_ready (rs := [6, 8]) (by kernel_rfl) (by simp) ?_
        refine (AllReadyH.cons (o := ⟨some 3, .alloc 26, 0, _, _, none⟩) rfl (fun K hK => ?_) (AllReadyH.cons (o := ⟨some 5, .alloc 79, 0, _, _, none⟩) rfl (fun K hK => ?_) AllReadyH.nil))
        · go_simp
          have By19 := (Below.refl y2.heap.size y2).alloc (Nat.le_refl _) (.cells #[.slice none 0 0] 26)
          have lty19 := hHeld.2.out.X.lt (by simp)
          have Py19 := hHeld.2.out.below By19
          obtain ⟨pA, h_pA⟩ : ∃ p, p = y2.heap.size := ⟨_, rfl⟩
          have b_pA := Bk.new (w := w) h_pA lty19 [.slice none 0 0] 26
          have n_gh_pA : gh ≠ pA := by rw [h_pA]; exact Nat.ne_of_lt b_gh.lt
          replace b_gh := b_gh.below By19
          have n_pB_pA : pB ≠ pA := by rw [h_pA]; exact Nat.ne_of_lt b_pB.lt
          replace b_pB := b_pB.below By19
          rw [← h_pA]
          generalize y2.alloc (.cells #[.slice none 0 0] 26) = y3 at Py19 b_gh b_pB b_pA ⊢
          clear By19 h_pA lty19
          try dsimp only
          refine hK.out _ _ ⟨⟨Py19.X.cell 0 rfl, Py19.X.cell 1 rfl, Py19.X.cell 2 rfl, Py19.X.cell 3 rfl, Py19.X.cell 4 rfl, Py19.X.cell 5 rfl, Py19.X.cell 6 rfl, Py19.X.cell 7 rfl, Py19.X.cell 8 rfl, Py19.X.cell 9 rfl, Py19.X.cell 10 rfl, Py19.X.cell 11 rfl, Py19.X.cell 12 rfl⟩, Py19⟩ ?_; clear hK K hHeld; intro hHeld; try simp only [Act.put, List.setIfInBounds_toArray, List.set_cons_zero, List.set_cons_succ]
          refine Tk.R 8 (some 5) (.alloc 79) 0 none (fun K hK => ?_)
          go_simp
          have By20 := (Below.refl y3.heap.size y3).alloc (Nat.le_refl _) (.cells #[.int .i64 0, .int .i64 0] 79)
          have lty20 := hHeld.2.out.X.lt (by simp)
          have Py20 := hHeld.2.out.below By20
          obtain ⟨pD, h_pD⟩ : ∃ p, p = y3.heap.size := ⟨_, rfl⟩
          have b_pD := Bk.new (w := w) h_pD lty20 [.int .i64 0, .int .i64 0] 79
          have n_gh_pD : gh ≠ pD := by rw [h_pD]; exact Nat.ne_of_lt b_gh.lt
          replace b_gh := b_gh.below By20
          have n_pB_pD : pB ≠ pD := by rw [h_pD]; exact Nat.ne_of_lt b_pB.lt
          replace b_pB := b_pB.below By20
          have n_pA_pD : pA ≠ pD := by rw [h_pD]; exact Nat.ne_of_lt b_pA.lt
          replace b_pA := b_pA.below By20
          rw [← h_pD]
          generalize y3.alloc (.cells #[.int .i64 0, .int .i64 0] 79) = y4 at Py20 b_gh b_pB b_pA b_pD ⊢
          clear By20 h_pD lty20
          try dsimp only
          refine hK.out _ _ ⟨⟨Py20.X.cell 0 rfl, Py20.X.cell 1 rfl, Py20.X.cell 2 rfl, Py20.X.cell 3 rfl, Py20.X.cell 4 rfl, Py20.X.cell 5 rfl, Py20.X.cell 6 rfl, Py20.X.cell 7 rfl, Py20.X.cell 8 rfl, Py20.X.cell 9 rfl, Py20.X.cell 10 rfl, Py20.X.cell 11 rfl, Py20.X.cell 12 rfl⟩, Py20⟩ ?_; clear hK K hHeld; intro hHeld; try simp only [Act.put, List.setIfInBounds_toArray, List.set_cons_zero, List.set_cons_succ]
          refine Tk.R 9 none (.store 26 (.tmp 3) (.tmp 8)) 0 none (fun K hK => ?_)
          have f0 := b_pA.R.cell 0 rfl
          have q0 := b_pA.R.froz 0 rfl
          go_simp
          clear f0 q0
          have Py210 := hHeld.2.out.of_mid (Mid.set y4 pA 0 (.slice (some ⟨gh, 0, none⟩) (HN c.bs c.bs.length).length ch)) b_pA.lo hA (by simp)
          replace b_gh := b_gh.other n_gh_pA.symm 0 (.slice (some ⟨gh, 0, none⟩) (HN c.bs c.bs.length).length ch)
          replace b_pB := b_pB.other n_pB_pA.symm 0 (.slice (some ⟨gh, 0, none⟩) (HN c.bs c.bs.length).length ch)
          replace b_pD := b_pD.other n_pA_pD 0 (.slice (some ⟨gh, 0, none⟩) (HN c.bs c.bs.length).length ch)
          replace b_pA := b_pA.set 0 (.slice (some ⟨gh, 0, none⟩) (HN c.bs c.bs.length).length ch)
          have Py21 := Py210
          clear Py210
          generalize y4.setCell ⟨pA, 0, none⟩ (.slice (some ⟨gh, 0, none⟩) (HN c.bs c.bs.length).length ch) = y5 at Py21 b_gh b_pB b_pA b_pD ⊢
          try dsimp only
          refine hK.out _ _ ⟨⟨Py21.X.cell 0 rfl, Py21.X.cell 1 rfl, Py21.X.cell 2 rfl, Py21.X.cell 3 rfl, Py21.X.cell 4 rfl, Py21.X.cell 5 rfl, Py21.X.cell 6 rfl, Py21.X.cell 7 rfl, Py21.X.cell 8 rfl, Py21.X.cell 9 rfl, Py21.X.cell 10 rfl, Py21.X.cell 11 rfl, Py21.X.cell 12 rfl⟩, Py21⟩ ?_; clear hK K hHeld; intro hHeld; try simp only [Act.put, List.setIfInBounds_toArray, List.set_cons_zero, List.set_cons_succ]
          refine Tk.R 10 none (.store 79 (.tmp 4) (.tmp 9)) 0 none (fun K hK => ?_)
          have f0 := b_pB.R.cell 0 rfl
          have q0 := b_pB.R.froz 0 rfl
          have f1 := b_pB.R.cell 1 rfl
          have q1 := b_pB.R.froz 1 rfl
          go_simp
          clear f0 q0 f1 q1
          have Py220 := hHeld.2.out.of_mid (Mid.set y5 pB 0 (.int .i64 1)) b_pB.lo hA (by simp)
          replace b_gh := b_gh.other n_gh_pB.symm 0 (.int .i64 1)
          replace b_pA := b_pA.other n_pB_pA 0 (.int .i64 1)
          replace b_pD := b_pD.other n_pB_pD 0 (.int .i64 1)
          replace b_pB := b_pB.set 0 (.int .i64 1)
          have Py221 := Py220.of_mid (Mid.set (y5.setCell ⟨pB, 0, none⟩ (.int .i64 1)) pB 1 (.int .i64 1000)) b_pB.lo hA (by simp)
          replace b_gh := b_gh.other n_gh_pB.symm 1 (.int .i64 1000)
          replace b_pA := b_pA.other n_pB_pA 1 (.int .i64 1000)
          replace b_pD := b_pD.other n_pB_pD 1 (.int .i64 1000)
          replace b_pB := b_pB.set 1 (.int .i64 1000)
          have Py22 := Py221
          clear Py220 Py221
          generalize (y5.setCell ⟨pB, 0, none⟩ (.int .i64 1)).setCell ⟨pB, 1, none⟩ (.int .i64 1000) = y6 at Py22 b_gh b_pB b_pA b_pD ⊢
          try dsimp only
          refine hK.out _ _ ⟨⟨Py22.X.cell 0 rfl, Py22.X.cell 1 rfl, Py22.X.cell 2 rfl, Py22.X.cell 3 rfl, Py22.X.cell 4 rfl, Py22.X.cell 5 rfl, Py22.X.cell 6 rfl, Py22.X.cell 7 rfl, Py22.X.cell 8 rfl, Py22.X.cell 9 rfl, Py22.X.cell 10 rfl, Py22.X.cell 11 rfl, Py22.X.cell 12 rfl⟩, Py22⟩ ?_; clear hK K hHeld; intro hHeld; try simp only [Act.put, List.setIfInBounds_toArray, List.set_cons_zero, List.set_cons_succ]
          refine Tk.R 11 none (.store 79 (.tmp 5) (.tmp 12)) 0 none (fun K hK => ?_)
          have f0 := b_pD.R.cell 0 rfl
          have q0 := b_pD.R.froz 0 rfl
          have f1 := b_pD.R.cell 1 rfl
          have q1 := b_pD.R.froz 1 rfl
          go_simp
          clear f0 q0 f1 q1
          have Py230 := hHeld.2.out.of_mid (Mid.set y6 pD 0 (.int .i64 0)) b_pD.lo hA (by simp)
          replace b_gh := b_gh.other n_gh_pD.symm 0 (.int .i64 0)
          replace b_pB := b_pB.other n_pB_pD.symm 0 (.int .i64 0)
          replace b_pA := b_pA.other n_pA_pD.symm 0 (.int .i64 0)
          replace b_pD := b_pD.set 0 (.int .i64 0)
          have Py231 := Py230.of_mid (Mid.set (y6.setCell ⟨pD, 0, none⟩ (.int .i64 0)) pD 1 (.int .i64 c.now)) b_pD.lo hA (by simp)
          replace b_gh := b_gh.other n_gh_pD.symm 1 (.int .i64 c.now)
          replace b_pB := b_pB.other n_pB_pD.symm 1 (.int .i64 c.now)
          replace b_pA := b_pA.other n_pA_pD.symm 1 (.int .i64 c.now)
          replace b_pD := b_pD.set 1 (.int .i64 c.now)
          have Py23 := Py231
          clear Py230 Py231
          generalize (y6.setCell ⟨pD, 0, none⟩ (.int .i64 0)).setCell ⟨pD, 1, none⟩ (.int .i64 c.now) = y7 at Py23 b_gh b_pB b_pA b_pD ⊢
          try dsimp only
          refine hK.out _ _ ⟨⟨Py23.X.cell 0 rfl, Py23.X.cell 1 rfl, Py23.X.cell 2 rfl, Py23.X.cell 3 rfl, Py23.X.cell 4 rfl, Py23.X.cell 5 rfl, Py23.X.cell 6 rfl, Py23.X.cell 7 rfl, Py23.X.cell 8 rfl, Py23.X.cell 9 rfl, Py23.X.cell 10 rfl, Py23.X.cell 11 rfl, Py23.X.cell 12 rfl⟩, Py23⟩ ?_; clear hK K hHeld; intro hHeld; try simp only [Act.put, List.setIfInBounds_toArray, List.set_cons_zero, List.set_cons_succ]
          refine wpAnyH_done (by kernel_rfl) ?_ _
          refine NoPanic.normal ?_
          have PX := hHeld.2.out
          clear hHeld
          go_wp2_with fail
          go_meet
          case rel => exact ⟨pA, pB, pD, gh, ch, rfl, rfl, rfl, ⟨PX, b_pA, b_pB, b_pD, b_gh⟩⟩
        · go_simp
          have By24 := (Below.refl y2.heap.size y2).alloc (Nat.le_refl _) (.cells #[.int .i64 0, .int .i64 0] 79)
          have lty24 := hHeld.2.out.X.lt (by simp)
          have Py24 := hHeld.2.out.below By24
          obtain ⟨pD, h_pD⟩ : ∃ p, p = y2.heap.size := ⟨_, rfl⟩
          have b_pD := Bk.new (w := w) h_pD lty24 [.int .i64 0, .int .i64 0] 79
          have n_gh_pD : gh ≠ pD := by rw [h_pD]; exact Nat.ne_of_lt b_gh.lt
          replace b_gh := b_gh.below By24
          have n_pB_pD : pB ≠ pD := by rw [h_pD]; exact Nat.ne_of_lt b_pB.lt
          replace b_pB := b_pB.below By24
          rw [← h_pD]
          generalize y2.alloc (.cells #[.int .i64 0, .int .i64 0] 79) = y3 at Py24 b_gh b_pB b_pD ⊢
          clear By24 h_pD lty24
          try dsimp only
          refine hK.out _ _ ⟨⟨Py24.X.cell 0 rfl, Py24.X.cell 1 rfl, Py24.X.cell 2 rfl, Py24.X.cell 3 rfl, Py24.X.cell 4 rfl, Py24.X.cell 5 rfl, Py24.X.cell 6 rfl, Py24.X.cell 7 rfl, Py24.X.cell 8 rfl, Py24.X.cell 9 rfl, Py24.X.cell 10 rfl, Py24.X.cell 11 rfl, Py24.X.cell 12 rfl⟩, Py24⟩ ?_; clear hK K hHeld; intro hHeld; try simp only [Act.put, List.setIfInBounds_toArray, List.set_cons_zero, List.set_cons_succ]
          refine Tk.R 6 (some 3) (.alloc 26) 0 none (fun K hK => ?_)
          go_simp
          have By25 := (Below.refl y3.heap.size y3).alloc (Nat.le_refl _) (.cells #[.slice none 0 0] 26)
          have lty25 := hHeld.2.out.X.lt (by simp)
          have Py25 := hHeld.2.out.below By25
          obtain ⟨pA, h_pA⟩ : ∃ p, p = y3.heap.size := ⟨_, rfl⟩
          have b_pA := Bk.new (w := w) h_pA lty25 [.slice none 0 0] 26
          have n_gh_pA : gh ≠ pA := by rw [h_pA]; exact Nat.ne_of_lt b_gh.lt
          replace b_gh := b_gh.below By25
          have n_pB_pA : pB ≠ pA := by rw [h_pA]; exact Nat.ne_of_lt b_pB.lt
          replace b_pB := b_pB.below By25
          have n_pD_pA : pD ≠ pA := by rw [h_pA]; exact Nat.ne_of_lt b_pD.lt
          replace b_pD := b_pD.below By25
          rw [← h_pA]
          generalize y3.alloc (.cells #[.slice none 0 0] 26) = y4 at Py25 b_gh b_pB b_pD b_pA ⊢
          clear By25 h_pA lty25
          try dsimp only
          refine hK.out _ _ ⟨⟨Py25.X.cell 0 rfl, Py25.X.cell 1 rfl, Py25.X.cell 2 rfl, Py25.X.cell 3 rfl, Py25.X.cell 4 rfl, Py25.X.cell 5 rfl, Py25.X.cell 6 rfl, Py25.X.cell 7 rfl, Py25.X.cell 8 rfl, Py25.X.cell 9 rfl, Py25.X.cell 10 rfl, Py25.X.cell 11 rfl, Py25.X.cell 12 rfl⟩, Py25⟩ ?_; clear hK K hHeld; intro hHeld; try simp only [Act.put, List.setIfInBounds_toArray, List.set_cons_zero, List.set_cons_succ]
          refine Tk.R 9 none (.store 26 (.tmp 3) (.tmp 8)) 0 none (fun K hK => ?_)
          have f0 := b_pA.R.cell 0 rfl
          have q0 := b_pA.R.froz 0 rfl
          go_simp
          clear f0 q0
          have Py260 := hHeld.2.out.of_mid (Mid.set y4 pA 0 (.slice (some ⟨gh, 0, none⟩) (HN c.bs c.bs.length).length ch)) b_pA.lo hA (by simp)
          replace b_gh := b_gh.other n_gh_pA.symm 0 (.slice (some ⟨gh, 0, none⟩) (HN c.bs c.bs.length).length ch)
          replace b_pB := b_pB.other n_pB_pA.symm 0 (.slice (some ⟨gh, 0, none⟩) (HN c.bs c.bs.length).length ch)
          replace b_pD := b_pD.other n_pD_pA.symm 0 (.slice (some ⟨gh, 0, none⟩) (HN c.bs c.bs.length).length ch)
          replace b_pA := b_pA.set 0 (.slice (some ⟨gh, 0, none⟩) (HN c.bs c.bs.length).length ch)
          have Py26 := Py260
          clear Py260
          generalize y4.setCell ⟨pA, 0, none⟩ (.slice (some ⟨gh, 0, none⟩) (HN c.bs c.bs.length).length ch) = y5 at Py26 b_gh b_pB b_pD b_pA ⊢
          try dsimp only
          refine hK.out _ _ ⟨⟨Py26.X.cell 0 rfl, Py26.X.cell 1 rfl, Py26.X.cell 2 rfl, Py26.X.cell 3 rfl, Py26.X.cell 4 rfl, Py26.X.cell 5 rfl, Py26.X.cell 6 rfl, Py26.X.cell 7 rfl, Py26.X.cell 8 rfl, Py26.X.cell 9 rfl, Py26.X.cell 10 rfl, Py26.X.cell 11 rfl, Py26.X.cell 12 rfl⟩, Py26⟩ ?_; clear hK K hHeld; intro hHeld; try simp only [Act.put, List.setIfInBounds_toArray, List.set_cons_zero, List.set_cons_succ]
          refine Tk.R 10 none (.store 79 (.tmp 4) (.tmp 9)) 0 none (fun K hK => ?_)
          have f0 := b_pB.R.cell 0 rfl
          have q0 := b_pB.R.froz 0 rfl
          have f1 := b_pB.R.cell 1 rfl
          have q1 := b_pB.R.froz 1 rfl
          go_simp
          clear f0 q0 f1 q1
          have Py270 := hHeld.2.out.of_mid (Mid.set y5 pB 0 (.int .i64 1)) b_pB.lo hA (by simp)
          replace b_gh := b_gh.other n_gh_pB.symm 0 (.int .i64 1)
          replace b_pD := b_pD.other n_pB_pD 0 (.int .i64 1)
          replace b_pA := b_pA.other n_pB_pA 0 (.int .i64 1)
          replace b_pB := b_pB.set 0 (.int .i64 1)
          have Py271 := Py270.of_mid (Mid.set (y5.setCell ⟨pB, 0, none⟩ (.int .i64 1)) pB 1 (.int .i64 1000)) b_pB.lo hA (by simp)
          replace b_gh := b_gh.other n_gh_pB.symm 1 (.int .i64 1000)
          replace b_pD := b_pD.other n_pB_pD 1 (.int .i64 1000)
          replace b_pA := b_pA.other n_pB_pA 1 (.int .i64 1000)
          replace b_pB := b_pB.set 1 (.int .i64 1000)
          have Py27 := Py271
          clear Py270 Py271
          generalize (y5.setCell ⟨pB, 0, none⟩ (.int .i64 1)).setCell ⟨pB, 1, none⟩ (.int .i64 1000) = y6 at Py27 b_gh b_pB b_pD b_pA ⊢
          try dsimp only
          refine hK.out _ _ ⟨⟨Py27.X.cell 0 rfl, Py27.X.cell 1 rfl, Py27.X.cell 2 rfl, Py27.X.cell 3 rfl, Py27.X.cell 4 rfl, Py27.X.cell 5 rfl, Py27.X.cell 6 rfl, Py27.X.cell 7 rfl, Py27.X.cell 8 rfl, Py27.X.cell 9 rfl, Py27.X.cell 10 rfl, Py27.X.cell 11 rfl, Py27.X.cell 12 rfl⟩, Py27⟩ ?_; clear hK K hHeld; intro hHeld; try simp only [Act.put, List.setIfInBounds_toArray, List.set_cons_zero, List.set_cons_succ]
          refine Tk.R 11 none (.store 79 (.tmp 5) (.tmp 12)) 0 none (fun K hK => ?_)
          have f0 := b_pD.R.cell 0 rfl
          have q0 := b_pD.R.froz 0 rfl
          have f1 := b_pD.R.cell 1 rfl
          have q1 := b_pD.R.froz 1 rfl
          go_simp
          clear f0 q0 f1 q1
          have Py280 := hHeld.2.out.of_mid (Mid.set y6 pD 0 (.int .i64 0)) b_pD.lo hA (by simp)
          replace b_gh := b_gh.other n_gh_pD.symm 0 (.int .i64 0)
          replace b_pB := b_pB.other n_pB_pD.symm 0 (.int .i64 0)
          replace b_pA := b_pA.other n_pD_pA 0 (.int .i64 0)
          replace b_pD := b_pD.set 0 (.int .i64 0)
          have Py281 := Py280.of_mid (Mid.set (y6.setCell ⟨pD, 0, none⟩ (.int .i64 0)) pD 1 (.int .i64 c.now)) b_pD.lo hA (by simp)
          replace b_gh := b_gh.other n_gh_pD.symm 1 (.int .i64 c.now)
          replace b_pB := b_pB.other n_pB_pD.symm 1 (.int .i64 c.now)
          replace b_pA := b_pA.other n_pD_pA 1 (.int .i64 c.now)
          replace b_pD := b_pD.set 1 (.int .i64 c.now)
          have Py28 := Py281
          clear Py280 Py281
          generalize (y6.setCell ⟨pD, 0, none⟩ (.int .i64 0)).setCell ⟨pD, 1, none⟩ (.int .i64 c.now) = y7 at Py28 b_gh b_pB b_pD b_pA ⊢
          try dsimp only
          refine hK.out _ _ ⟨⟨Py28.X.cell 0 rfl, Py28.X.cell 1 rfl, Py28.X.cell 2 rfl, Py28.X.cell 3 rfl, Py28.X.cell 4 rfl, Py28.X.cell 5 rfl, Py28.X.cell 6 rfl, Py28.X.cell 7 rfl, Py28.X.cell 8 rfl, Py28.X.cell 9 rfl, Py28.X.cell 10 rfl, Py28.X.cell 11 rfl, Py28.X.cell 12 rfl⟩, Py28⟩ ?_; clear hK K hHeld; intro hHeld; try simp only [Act.put, List.setIfInBounds_toArray, List.set_cons_zero, List.set_cons_succ]
          refine wpAnyH_done (by kernel_rfl) ?_ _
          refine NoPanic.normal ?_
          have PX := hHeld.2.out
          clear hHeld
          go_wp2_with fail
          go_meet
          case rel => exact ⟨pA, pB, pD, gh, ch, rfl, rfl, rfl, ⟨PX, b_pA, b_pB, b_pD, b_gh⟩⟩
      · go_simp
        have By29 := (Below.refl y1.heap.size y1).alloc (Nat.le_refl _) (.cells #[.int .i64 0, .int .i64 0] 79)
        have lty29 := hHeld.2.out.X.lt (by simp)
        have Py29 := hHeld.2.out.below By29
        obtain ⟨pD, h_pD⟩ : ∃ p, p = y1.heap.size := ⟨_, rfl⟩
        have b_pD := Bk.new (w := w) h_pD lty29 [.int .i64 0, .int .i64 0] 79
        have n_gh_pD : gh ≠ pD := by rw [h_pD]; exact Nat.ne_of_lt b_gh.lt
        replace b_gh := b_gh.below By29
        rw [← h_pD]
        generalize y1.alloc (.cells #[.int .i64 0, .int .i64 0] 79) = y2 at Py29 b_gh b_pD ⊢
        clear By29 h_pD lty29
        try dsimp only
        refine hK.out _ _ ⟨⟨Py29.X.cell 0 rfl, Py29.X.cell 1 rfl, Py29.X.cell 2 rfl, Py29.X.cell 3 rfl, Py29.X.cell 4 rfl, Py29.X.cell 5 rfl, Py29.X.cell 6 rfl, Py29.X.cell 7 rfl, Py29.X.cell 8 rfl, Py29.X.cell 9 rfl, Py29.X.cell 10 rfl, Py29.X.cell 11 rfl, Py29.X.cell 12 rfl⟩, Py29⟩ ?_; clear hK K hHeld; intro hHeld; try simp only [Act.put, List.setIfInBounds_toArray, List.set_cons_zero, List.set_cons_succ]
        refine wpAnyH_ready (rs := [6, 7]) (by kernel_rfl) (by simp) ?_
        refine (AllReadyH.cons (o := ⟨some 3, .alloc 26, 0, _, _, none⟩) rfl (fun K hK => ?_) (AllReadyH.cons (o := ⟨some 4, .alloc 79, 0, _, _, none⟩) rfl (fun K hK => ?_) AllReadyH.nil))
        · go_simp
          have By30 := (Below.refl y2.heap.size y2).alloc (Nat.le_refl _) (.cells #[.slice none 0 0] 26)
          have lty30 := hHeld.2.out.X.lt (by simp)
          have Py30 := hHeld.2.out.below By30
          obtain ⟨pA, h_pA⟩ : ∃ p, p = y2.heap.size := ⟨_, rfl⟩
          have b_pA := Bk.new (w := w) h_pA lty30 [.slice none 0 0] 26
          have n_gh_pA : gh ≠ pA := by rw [h_pA]; exact Nat.ne_of_lt b_gh.lt
          replace b_gh := b_gh.below By30
          have n_pD_pA : pD ≠ pA := by rw [h_pA]; exact Nat.ne_of_lt b_pD.lt
          replace b_pD := b_pD.below By30
          rw [← h_pA]
          generalize y2.alloc (.cells #[.slice none 0 0] 26) = y3 at Py30 b_gh b_pD b_pA ⊢
          clear By30 h_pA lty30
          try dsimp only
          refine hK.out _ _ ⟨⟨Py30.X.cell 0 rfl, Py30.X.cell 1 rfl, Py30.X.cell 2 rfl, Py30.X.cell 3 rfl, Py30.X.cell 4 rfl, Py30.X.cell 5 rfl, Py30.X.cell 6 rfl, Py30.X.cell 7 rfl, Py30.X.cell 8 rfl, Py30.X.cell 9 rfl, Py30.X.cell 10 rfl, Py30.X.cell 11 rfl, Py30.X.cell 12 rfl⟩, Py30⟩ ?_; clear hK K hHeld; intro hHeld; try simp only [Act.put, List.setIfInBounds_toArray, List.set_cons_zero, List.set_cons_succ]
          refine Tk.R 7 (some 4) (.alloc 79) 0 none (fun K hK => ?_)
          go_simp
          have By31 := (Below.refl y3.heap.size y3).alloc (Nat.le_refl _) (.cells #[.int .i64 0, .int .i64 0] 79)
          have lty31 := hHeld.2.out.X.lt (by simp)
          have Py31 := hHeld.2.out.below By31
          obtain ⟨pB, h_pB⟩ : ∃ p, p = y3.heap.size := ⟨_, rfl⟩
          have b_pB := Bk.new (w := w) h_pB lty31 [.int .i64 0, .int .i64 0] 79
          have n_gh_pB : gh ≠ pB := by rw [h_pB]; exact Nat.ne_of_lt b_gh.lt
          replace b_gh := b_gh.below By31
          have n_pD_pB : pD ≠ pB := by rw [h_pB]; exact Nat.ne_of_lt b_pD.lt
          replace b_pD := b_pD.below By31
          have n_pA_pB : pA ≠ pB := by rw [h_pB]; exact Nat.ne_of_lt b_pA.lt
          replace b_pA := b_pA.below By31
          rw [← h_pB]
          generalize y3.alloc (.cells #[.int .i64 0, .int .i64 0] 79) = y4 at Py31 b_gh b_pD b_pA b_pB ⊢
          clear By31 h_pB lty31
          try dsimp only
          refine hK.out _ _ ⟨⟨Py31.X.cell 0 rfl, Py31.X.cell 1 rfl, Py31.X.cell 2 rfl, Py31.X.cell 3 rfl, Py31.X.cell 4 rfl, Py31.X.cell 5 rfl, Py31.X.cell 6 rfl, Py31.X.cell 7 rfl, Py31.X.cell 8 rfl, Py31.X.cell 9 rfl, Py31.X.cell 10 rfl, Py31.X.cell 11 rfl, Py31.X.cell 12 rfl⟩, Py31⟩ ?_; clear hK K hHeld; intro hHeld; try simp only [Act.put, List.setIfInBounds_toArray, List.set_cons_zero, List.set_cons_succ]
          refine Tk.R 9 none (.store 26 (.tmp 3) (.tmp 8)) 0 none (fun K hK => ?_)
          have f0 := b_pA.R.cell 0 rfl
          have q0 := b_pA.R.froz 0 rfl
          go_simp
          clear f0 q0
          have Py320 := hHeld.2.out.of_mid (Mid.set y4 pA 0 (.slice (some ⟨gh, 0, none⟩) (HN c.bs c.bs.length).length ch)) b_pA.lo hA (by simp)
          replace b_gh := b_gh.other n_gh_pA.symm 0 (.slice (some ⟨gh, 0, none⟩) (HN c.bs c.bs.length).length ch)
          replace b_pD := b_pD.other n_pD_pA.symm 0 (.slice (some ⟨gh, 0, none⟩) (HN c.bs c.bs.length).length ch)
          replace b_pB := b_pB.other n_pA_pB 0 (.slice (some ⟨gh, 0, none⟩) (HN c.bs c.bs.length).length ch)
          replace b_pA := b_pA.set 0 (.slice (some ⟨gh, 0, none⟩) (HN c.bs c.bs.length).length ch)
          have Py32 := Py320
          clear Py320
          generalize y4.setCell ⟨pA, 0, none⟩ (.slice (some ⟨gh, 0, none⟩) (HN c.bs c.bs.length).length ch) = y5 at Py32 b_gh b_pD b_pA b_pB ⊢
          try dsimp only
          refine hK.out _ _ ⟨⟨Py32.X.cell 0 rfl, Py32.X.cell 1 rfl, Py32.X.cell 2 rfl, Py32.X.cell 3 rfl, Py32.X.cell 4 rfl, Py32.X.cell 5 rfl, Py32.X.cell 6 rfl, Py32.X.cell 7 rfl, Py32.X.cell 8 rfl, Py32.X.cell 9 rfl, Py32.X.cell 10 rfl, Py32.X.cell 11 rfl, Py32.X.cell 12 rfl⟩, Py32⟩ ?_; clear hK K hHeld; intro hHeld; try simp only [Act.put, List.setIfInBounds_toArray, List.set_cons_zero, List.set_cons_succ]
          refine Tk.R 10 none (.store 79 (.tmp 4) (.tmp 9)) 0 none (fun K hK => ?_)
          have f0 := b_pB.R.cell 0 rfl
          have q0 := b_pB.R.froz 0 rfl
          have f1 := b_pB.R.cell 1 rfl
          have q1 := b_pB.R.froz 1 rfl
          go_simp
          clear f0 q0 f1 q1
          have Py330 := hHeld.2.out.of_mid (Mid.set y5 pB 0 (.int .i64 1)) b_pB.lo hA (by simp)
          replace b_gh := b_gh.other n_gh_pB.symm 0 (.int .i64 1)
          replace b_pD := b_pD.other n_pD_pB.symm 0 (.int .i64 1)
          replace b_pA := b_pA.other n_pA_pB.symm 0 (.int .i64 1)
          replace b_pB := b_pB.set 0 (.int .i64 1)
          have Py331 := Py330.of_mid (Mid.set (y5.setCell ⟨pB, 0, none⟩ (.int .i64 1)) pB 1 (.int .i64 1000)) b_pB.lo hA (by simp)
          replace b_gh := b_gh.other n_gh_pB.symm 1 (.int .i64 1000)
          replace b_pD := b_pD.other n_pD_pB.symm 1 (.int .i64 1000)
          replace b_pA := b_pA.other n_pA_pB.symm 1 (.int .i64 1000)
          replace b_pB := b_pB.set 1 (.int .i64 1000)
          have Py33 := Py331
          clear Py330 Py331
          generalize (y5.setCell ⟨pB, 0, none⟩ (.int .i64 1)).setCell ⟨pB, 1, none⟩ (.int .i64 1000) = y6 at Py33 b_gh b_pD b_pA b_pB ⊢
          try dsimp only
          refine hK.out _ _ ⟨⟨Py33.X.cell 0 rfl, Py33.X.cell 1 rfl, Py33.X.cell 2 rfl, Py33.X.cell 3 rfl, Py33.X.cell 4 rfl, Py33.X.cell 5 rfl, Py33.X.cell 6 rfl, Py33.X.cell 7 rfl, Py33.X.cell 8 rfl, Py33.X.cell 9 rfl, Py33.X.cell 10 rfl, Py33.X.cell 11 rfl, Py33.X.cell 12 rfl⟩, Py33⟩ ?_; clear hK K hHeld; intro hHeld; try simp only [Act.put, List.setIfInBounds_toArray, List.set_cons_zero, List.set_cons_succ]
          refine Tk.R 11 none (.store 79 (.tmp 5) (.tmp 12)) 0 none (fun K hK => ?_)
          have f0 := b_pD.R.cell 0 rfl
          have q0 := b_pD.R.froz 0 rfl
          have f1 := b_pD.R.cell 1 rfl
          have q1 := b_pD.R.froz 1 rfl
          go_simp
          clear f0 q0 f1 q1
          have Py340 := hHeld.2.out.of_mid (Mid.set y6 pD 0 (.int .i64 0)) b_pD.lo hA (by simp)
          replace b_gh := b_gh.other n_gh_pD.symm 0 (.int .i64 0)
          replace b_pA := b_pA.other n_pD_pA 0 (.int .i64 0)
          replace b_pB := b_pB.other n_pD_pB 0 (.int .i64 0)
          replace b_pD := b_pD.set 0 (.int .i64 0)
          have Py341 := Py340.of_mid (Mid.set (y6.setCell ⟨pD, 0, none⟩ (.int .i64 0)) pD 1 (.int .i64 c.now)) b_pD.lo hA (by simp)
          replace b_gh := b_gh.other n_gh_pD.symm 1 (.int .i64 c.now)
          replace b_pA := b_pA.other n_pD_pA 1 (.int .i64 c.now)
          replace b_pB := b_pB.other n_pD_pB 1 (.int .i64 c.now)
          replace b_pD := b_pD.set 1 (.int .i64 c.now)
          have Py34 := Py341
          clear Py340 Py341
          generalize (y6.setCell ⟨pD, 0, none⟩ (.int .i64 0)).setCell ⟨pD, 1, none⟩ (.int .i64 c.now) = y7 at Py34 b_gh b_pD b_pA b_pB ⊢
          try dsimp only
          refine hK.out _ _ ⟨⟨Py34.X.cell 0 rfl, Py34.X.cell 1 rfl, Py34.X.cell 2 rfl, Py34.X.cell 3 rfl, Py34.X.cell 4 rfl, Py34.X.cell 5 rfl, Py34.X.cell 6 rfl, Py34.X.cell 7 rfl, Py34.X.cell 8 rfl, Py34.X.cell 9 rfl, Py34.X.cell 10 rfl, Py34.X.cell 11 rfl, Py34.X.cell 12 rfl⟩, Py34⟩ ?_; clear hK K hHeld; intro hHeld; try simp only [Act.put, List.setIfInBounds_toArray, List.set_cons_zero, List.set_cons_succ]
          refine wpAnyH_done (by kernel_rfl) ?_ _
          refine NoPanic.normal ?_
          have PX := hHeld.2.out
          clear hHeld
          go_wp2_with fail
          go_meet
          case rel => exact ⟨pA, pB, pD, gh, ch, rfl, rfl, rfl, ⟨PX, b_pA, b_pB, b_pD, b_gh⟩⟩
        · go_simp
          have By35 := (Below.refl y2.heap.size y2).alloc (Nat.le_refl _) (.cells #[.int .i64 0, .int .i64 0] 79)
          have lty35 := hHeld.2.out.X.lt (by simp)
          have Py35 := hHeld.2.out.below By35
          obtain ⟨pB, h_pB⟩ : ∃ p, p = y2.heap.size := ⟨_, rfl⟩
          have b_pB := Bk.new (w := w) h_pB lty35 [.int .i64 0, .int .i64 0] 79
          have n_gh_pB : gh ≠ pB := by rw [h_pB]; exact Nat.ne_of_lt b_gh.lt
          replace b_gh := b_gh.below By35
          have n_pD_pB : pD ≠ pB := by rw [h_pB]; exact Nat.ne_of_lt b_pD.lt
          replace b_pD := b_pD.below By35
          rw [← h_pB]
          generalize y2.alloc (.cells #[.int .i64 0, .int .i64 0] 79) = y3 at Py35 b_gh b_pD b_pB ⊢
          clear By35 h_pB lty35
          try dsimp only
          refine hK.out _ _ ⟨⟨Py35.X.cell 0 rfl, Py35.X.cell 1 rfl, Py35.X.cell 2 rfl, Py35.X.cell 3 rfl, Py35.X.cell 4 rfl, Py35.X.cell 5 rfl, Py35.X.cell 6 rfl, Py35.X.cell 7 rfl, Py35.X.cell 8 rfl, Py35.X.cell 9 rfl, Py35.X.cell 10 rfl, Py35.X.cell 11 rfl, Py35.X.cell 12 rfl⟩, Py35⟩ ?_; clear hK K hHeld; intro hHeld; try simp only [Act.put, List.setIfInBounds_toArray, List.set_cons_zero, List.set_cons_succ]
          refine Tk.R 6 (some 3) (.alloc 26) 0 none (fun K hK => ?_)
          go_simp
          have By36 := (Below.refl y3.heap.size y3).alloc (Nat.le_refl _) (.cells #[.slice none 0 0] 26)
          have lty36 := hHeld.2.out.X.lt (by simp)
          have Py36 := hHeld.2.out.below By36
          obtain ⟨pA, h_pA⟩ : ∃ p, p = y3.heap.size := ⟨_, rfl⟩
          have b_pA := Bk.new (w := w) h_pA lty36 [.slice none 0 0] 26
          have n_gh_pA : gh ≠ pA := by rw [h_pA]; exact Nat.ne_of_lt b_gh.lt
          replace b_gh := b_gh.below By36
          have n_pD_pA : pD ≠ pA := by rw [h_pA]; exact Nat.ne_of_lt b_pD.lt
          replace b_pD := b_pD.below By36
          have n_pB_pA : pB ≠ pA := by rw [h_pA]; exact Nat.ne_of_lt b_pB.lt
          replace b_pB := b_pB.below By36
          rw [← h_pA]
          generalize y3.alloc (.cells #[.slice none 0 0] 26) = y4 at Py36 b_gh b_pD b_pB b_pA ⊢
          clear By36 h_pA lty36
          try dsimp only
          refine hK.out _ _ ⟨⟨Py36.X.cell 0 rfl, Py36.X.cell 1 rfl, Py36.X.cell 2 rfl, Py36.X.cell 3 rfl, Py36.X.cell 4 rfl, Py36.X.cell 5 rfl, Py36.X.cell 6 rfl, Py36.X.cell 7 rfl, Py36.X.cell 8 rfl, Py36.X.cell 9 rfl, Py36.X.cell 10 rfl, Py36.X.cell 11 rfl, Py36.X.cell 12 rfl⟩, Py36⟩ ?_; clear hK K hHeld; intro hHeld; try simp only [Act.put, List.setIfInBounds_toArray, List.set_cons_zero, List.set_cons_succ]
          refine Tk.R 9 none (.store 26 (.tmp 3) (.tmp 8)) 0 none (fun K hK => ?_)
          have f0 := b_pA.R.cell 0 rfl
          have q0 := b_pA.R.froz 0 rfl
          go_simp
          clear f0 q0
          have Py370 := hHeld.2.out.of_mid (Mid.set y4 pA 0 (.slice (some ⟨gh, 0, none⟩) (HN c.bs c.bs.length).length ch)) b_pA.lo hA (by simp)
          replace b_gh := b_gh.other n_gh_pA.symm 0 (.slice (some ⟨gh, 0, none⟩) (HN c.bs c.bs.length).length ch)
          replace b_pD := b_pD.other n_pD_pA.symm 0 (.slice (some ⟨gh, 0, none⟩) (HN c.bs c.bs.length).length ch)
          replace b_pB := b_pB.other n_pB_pA.symm 0 (.slice (some ⟨gh, 0, none⟩) (HN c.bs c.bs.length).length ch)
          replace b_pA := b_pA.set 0 (.slice (some ⟨gh, 0, none⟩) (HN c.bs c.bs.length).length ch)
          have Py37 := Py370
          clear Py370
          generalize y4.setCell ⟨pA, 0, none⟩ (.slice (some ⟨gh, 0, none⟩) (HN c.bs c.bs.length).length ch) = y5 at Py37 b_gh b_pD b_pB b_pA ⊢
          try dsimp only
          refine hK.out _ _ ⟨⟨Py37.X.cell 0 rfl, Py37.X.cell 1 rfl, Py37.X.cell 2 rfl, Py37.X.cell 3 rfl, Py37.X.cell 4 rfl, Py37.X.cell 5 rfl, Py37.X.cell 6 rfl, Py37.X.cell 7 rfl, Py37.X.cell 8 rfl, Py37.X.cell 9 rfl, Py37.X.cell 10 rfl, Py37.X.cell 11 rfl, Py37.X.cell 12 rfl⟩, Py37⟩ ?_; clear hK K hHeld; intro hHeld; try simp only [Act.put, List.setIfInBounds_toArray, List.set_cons_zero, List.set_cons_succ]
          refine Tk.R 10 none (.store 79 (.tmp 4) (.tmp 9)) 0 none (fun K hK => ?_)
          have f0 := b_pB.R.cell 0 rfl
          have q0 := b_pB.R.froz 0 rfl
          have f1 := b_pB.R.cell 1 rfl
          have q1 := b_pB.R.froz 1 rfl
          go_simp
          clear f0 q0 f1 q1
          have Py380 := hHeld.2.out.of_mid (Mid.set y5 pB 0 (.int .i64 1)) b_pB.lo hA (by simp)
          replace b_gh := b_gh.other n_gh_pB.symm 0 (.int .i64 1)
          replace b_pD := b_pD.other n_pD_pB.symm 0 (.int .i64 1)
          replace b_pA := b_pA.other n_pB_pA 0 (.int .i64 1)
          replace b_pB := b_pB.set 0 (.int .i64 1)
          have Py381 := Py380.of_mid (Mid.set (y5.setCell ⟨pB, 0, none⟩ (.int .i64 1)) pB 1 (.int .i64 1000)) b_pB.lo hA (by simp)
          replace b_gh := b_gh.other n_gh_pB.symm 1 (.int .i64 1000)
          replace b_pD := b_pD.other n_pD_pB.symm 1 (.int .i64 1000)
          replace b_pA := b_pA.other n_pB_pA 1 (.int .i64 1000)
          replace b_pB := b_pB.set 1 (.int .i64 1000)
          have Py38 := Py381
          clear Py380 Py381
          generalize (y5.setCell ⟨pB, 0, none⟩ (.int .i64 1)).setCell ⟨pB, 1, none⟩ (.int .i64 1000) = y6 at Py38 b_gh b_pD b_pB b_pA ⊢
          try dsimp only
          refine hK.out _ _ ⟨⟨Py38.X.cell 0 rfl, Py38.X.cell 1 rfl, Py38.X.cell 2 rfl, Py38.X.cell 3 rfl, Py38.X.cell 4 rfl, Py38.X.cell 5 rfl, Py38.X.cell 6 rfl, Py38.X.cell 7 rfl, Py38.X.cell 8 rfl, Py38.X.cell 9 rfl, Py38.X.cell 10 rfl, Py38.X.cell 11 rfl, Py38.X.cell 12 rfl⟩, Py38⟩ ?_; clear hK K hHeld; intro hHeld; try simp only [Act.put, List.setIfInBounds_toArray, List.set_cons_zero, List.set_cons_succ]
          refine Tk.R 11 none (.store 79 (.tmp 5) (.tmp 12)) 0 none (fun K hK => ?_)
          have f0 := b_pD.R.cell 0 rfl
          have q0 := b_pD.R.froz 0 rfl
          have f1 := b_pD.R.cell 1 rfl
          have q1 := b_pD.R.froz 1 rfl
          go_simp
          clear f0 q0 f1 q1
          have Py390 := hHeld.2.out.of_mid (Mid.set y6 pD 0 (.int .i64 0)) b_pD.lo hA (by simp)
          replace b_gh := b_gh.other n_gh_pD.symm 0 (.int .i64 0)
          replace b_pB := b_pB.other n_pD_pB 0 (.int .i64 0)
          replace b_pA := b_pA.other n_pD_pA 0 (.int .i64 0)
          replace b_pD := b_pD.set 0 (.int .i64 0)
          have Py391 := Py390.of_mid (Mid.set (y6.setCell ⟨pD, 0, none⟩ (.int .i64 0)) pD 1 (.int .i64 c.now)) b_pD.lo hA (by simp)
          replace b_gh := b_gh.other n_gh_pD.symm 1 (.int .i64 c.now)
          replace b_pB := b_pB.other n_pD_pB 1 (.int .i64 c.now)
          replace b_pA := b_pA.other n_pD_pA 1 (.int .i64 c.now)
          replace b_pD := b_pD.set 1 (.int .i64 c.now)
          have Py39 := Py391
          clear Py390 Py391
          generalize (y6.setCell ⟨pD, 0, none⟩ (.int .i64 0)).setCell ⟨pD, 1, none⟩ (.int .i64 c.now) = y7 at Py39 b_gh b_pD b_pB b_pA ⊢
          try dsimp only
          refine hK.out _ _ ⟨⟨Py39.X.cell 0 rfl, Py39.X.cell 1 rfl, Py39.X.cell 2 rfl, Py39.X.cell 3 rfl, Py39.X.cell 4 rfl, Py39.X.cell 5 rfl, Py39.X.cell 6 rfl, Py39.X.cell 7 rfl, Py39.X.cell 8 rfl, Py39.X.cell 9 rfl, Py39.X.cell 10 rfl, Py39.X.cell 11 rfl, Py39.X.cell 12 rfl⟩, Py39⟩ ?_; clear hK K hHeld; intro hHeld; try simp only [Act.put, List.setIfInBounds_toArray, List.set_cons_zero, List.set_cons_succ]
          refine wpAnyH_done (by kernel_rfl) ?_ _
          refine NoPanic.normal ?_
          have PX := hHeld.2.out
          clear hHeld
          go_wp2_with fail
          go_meet
          case rel => exact ⟨pA, pB, pD, gh, ch, rfl, rfl, rfl, ⟨PX, b_pA, b_pB, b_pD, b_gh⟩⟩
    · go_simp
      have By40 := (Below.refl y0.heap.size y0).alloc (Nat.le_refl _) (.cells #[.slice none 0 0] 26)
      have lty40 := hHeld.2.out.X.lt (by simp)
      have Py40 := hHeld.2.out.below By40
      obtain ⟨pA, h_pA⟩ : ∃ p, p = y0.heap.size := ⟨_, rfl⟩
      have b_pA := Bk.new (w := w) h_pA lty40 [.slice none 0 0] 26
      rw [← h_pA]
      generalize y0.alloc (.cells #[.slice none 0 0] 26) = y1 at Py40 b_pA ⊢
      clear By40 h_pA lty40
      try dsimp only
      refine hK.out _ _ ⟨⟨Py40.X.cell 0 rfl, Py40.X.cell 1 rfl, Py40.X.cell 2 rfl, Py40.X.cell 3 rfl, Py40.X.cell 4 rfl, Py40.X.cell 5 rfl, Py40.X.cell 6 rfl, Py40.X.cell 7 rfl, Py40.X.cell 8 rfl, Py40.X.cell 9 rfl, Py40.X.cell 10 rfl, Py40.X.cell 11 rfl, Py40.X.cell 12 rfl⟩, Py40⟩ ?_; clear hK K hHeld; intro hHeld; try simp only [Act.put, List.setIfInBounds_toArray, List.set_cons_zero, List.set_cons_succ]
      refine wpAnyH_ready (rs := [1, 7, 8]) (by kernel_rfl) (by simp) ?_
      refine (AllReadyH.cons (o := ⟨some 8, .call ⟨.value (.func 49), #[.tmp 7], #[35]⟩, 26, _, _, none⟩) rfl (fun K hK => ?_) (AllReadyH.cons (o := ⟨some 4, .alloc 79, 0, _, _, none⟩) rfl (fun K hK => ?_) (AllReadyH.cons (o := ⟨some 5, .alloc 79, 0, _, _, none⟩) rfl (fun K hK => ?_) AllReadyH.nil)))
      · go_simp
        refine (i_bareHonest c _ _ _ _ _ _ _ _ _ _ _ _ _ hHeld.2.out.A hb1 HPB.out).mono ?_
        rintro e y2 ⟨⟨gh, ch, rfl, oh⟩, by41⟩
        have Py41 := hHeld.2.out.below by41
        have b_gh : Bk w y2 gh (ints (HN c.bs c.bs.length)) := Bk.own oh (hHeld.2.out.X.lt (by simp))
        have hge : y1.heap.size ≤ gh := oh.data.2.1
        clear oh
        have n_pA_gh : pA ≠ gh := Nat.ne_of_lt (Nat.lt_of_lt_of_le b_pA.lt hge)
        replace b_pA := b_pA.below by41
        clear by41 hge
        try dsimp only
        refine hK.out _ _ ⟨⟨Py41.X.cell 0 rfl, Py41.X.cell 1 rfl, Py41.X.cell 2 rfl, Py41.X.cell 3 rfl, Py41.X.cell 4 rfl, Py41.X.cell 5 rfl, Py41.X.cell 6 rfl, Py41.X.cell 7 rfl, Py41.X.cell 8 rfl, Py41.X.cell 9 rfl, Py41.X.cell 10 rfl, Py41.X.cell 11 rfl, Py41.X.cell 12 rfl⟩, Py41⟩ ?_; clear hK K hHeld; intro hHeld; try simp only [Act.put, List.setIfInBounds_toArray, List.set_cons_zero, List.set_cons_succ]
        refine wpAnyH_ready (rs := [7, 8]) (by kernel_rfl) (by simp) ?_
        refine (AllReadyH.cons (o := ⟨some 4, .alloc 79, 0, _, _, none⟩) rfl (fun K hK => ?_) (AllReadyH.cons (o := ⟨some 5, .alloc 79, 0, _, _, none⟩) rfl (fun K hK => ?_) AllReadyH.nil))
        · go_simp
          have By42 := (Below.refl y2.heap.size y2).alloc (Nat.le_refl _) (.cells #[.int .i64 0, .int .i64 0] 79)
          have lty42 := hHeld.2.out.X.lt (by simp)
          have Py42 := hHeld.2.out.below By42
          obtain ⟨pB, h_pB⟩ : ∃ p, p = y2.heap.size := ⟨_, rfl⟩
          have b_pB := Bk.new (w := w) h_pB lty42 [.int .i64 0, .int .i64 0] 79
          have n_pA_pB : pA ≠ pB := by rw [h_pB]; exact Nat.ne_of_lt b_pA.lt
          replace b_pA := b_pA.below By42
          have n_gh_pB : gh ≠ pB := by rw [h_pB]; exact Nat.ne_of_lt b_gh.lt
          replace b_gh := b_gh.below By42
          rw [← h_pB]
          generalize y2.alloc (.cells #[.int .i64 0, .int .i64 0] 79) = y3 at Py42 b_pA b_gh b_pB ⊢
          clear By42 h_pB lty42
          try dsimp only
          refine hK.out _ _ ⟨⟨Py42.X.cell 0 rfl, Py42.X.cell 1 rfl, Py42.X.cell 2 rfl, Py42.X.cell 3 rfl, Py42.X.cell 4 rfl, Py42.X.cell 5 rfl, Py42.X.cell 6 rfl, Py42.X.cell 7 rfl, Py42.X.cell 8 rfl, Py42.X.cell 9 rfl, Py42.X.cell 10 rfl, Py42.X.cell 11 rfl, Py42.X.cell 12 rfl⟩, Py42⟩ ?_; clear hK K hHeld; intro hHeld; try simp only [Act.put, List.setIfInBounds_toArray, List.set_cons_zero, List.set_cons_succ]
          refine Tk.R 8 (some 5) (.alloc 79) 0 none (fun K hK => ?_)
          go_simp
          have By43 := (Below.refl y3.heap.size y3).alloc (Nat.le_refl _) (.cells #[.int .i64 0, .int .i64 0] 79)
          have lty43 := hHeld.2.out.X.lt (by simp)
          have Py43 := hHeld.2.out.below By43
          obtain ⟨pD, h_pD⟩ : ∃ p, p = y3.heap.size := ⟨_, rfl⟩
          have b_pD := Bk.new (w := w) h_pD lty43 [.int .i64 0, .int .i64 0] 79
          have n_pA_pD : pA ≠ pD := by rw [h_pD]; exact Nat.ne_of_lt b_pA.lt
          replace b_pA := b_pA.below By43
          have n_gh_pD : gh ≠ pD := by rw [h_pD]; exact Nat.ne_of_lt b_gh.lt
          replace b_gh := b_gh.below By43
          have n_pB_pD : pB ≠ pD := by rw [h_pD]; exact Nat.ne_of_lt b_pB.lt
          replace b_pB := b_pB.below By43
          rw [← h_pD]
          generalize y3.alloc (.cells #[.int .i64 0, .int .i64 0] 79) = y4 at Py43 b_pA b_gh b_pB b_pD ⊢
          clear By43 h_pD lty43
          try dsimp only
          refine hK.out _ _ ⟨⟨Py43.X.cell 0 rfl, Py43.X.cell 1 rfl, Py43.X.cell 2 rfl, Py43.X.cell 3 rfl, Py43.X.cell 4 rfl, Py43.X.cell 5 rfl, Py43.X.cell 6 rfl, Py43.X.cell 7 rfl, Py43.X.cell 8 rfl, Py43.X.cell 9 rfl, Py43.X.cell 10 rfl, Py43.X.cell 11 rfl, Py43.X.cell 12 rfl⟩, Py43⟩ ?_; clear hK K hHeld; intro hHeld; try simp only [Act.put, List.setIfInBounds_toArray, List.set_cons_zero, List.set_cons_succ]
          refine Tk.R 9 none (.store 26 (.tmp 3) (.tmp 8)) 0 none (fun K hK => ?_)
          have f0 := b_pA.R.cell 0 rfl
          have q0 := b_pA.R.froz 0 rfl
          go_simp
          clear f0 q0
          have Py440 := hHeld.2.out.of_mid (Mid.set y4 pA 0 (.slice (some ⟨gh, 0, none⟩) (HN c.bs c.bs.length).length ch)) b_pA.lo hA (by simp)
          replace b_gh := b_gh.other n_pA_gh 0 (.slice (some ⟨gh, 0, none⟩) (HN c.bs c.bs.length).length ch)
          replace b_pB := b_pB.other n_pA_pB 0 (.slice (some ⟨gh, 0, none⟩) (HN c.bs c.bs.length).length ch)
          replace b_pD := b_pD.other n_pA_pD 0 (.slice (some ⟨gh, 0, none⟩) (HN c.bs c.bs.length).length ch)
          replace b_pA := b_pA.set 0 (.slice (some ⟨gh, 0, none⟩) (HN c.bs c.bs.length).length ch)
          have Py44 := Py440
          clear Py440
          generalize y4.setCell ⟨pA, 0, none⟩ (.slice (some ⟨gh, 0, none⟩) (HN c.bs c.bs.length).length ch) = y5 at Py44 b_pA b_gh b_pB b_pD ⊢
          try dsimp only
          refine hK.out _ _ ⟨⟨Py44.X.cell 0 rfl, Py44.X.cell 1 rfl, Py44.X.cell 2 rfl, Py44.X.cell 3 rfl, Py44.X.cell 4 rfl, Py44.X.cell 5 rfl, Py44.X.cell 6 rfl, Py44.X.cell 7 rfl, Py44.X.cell 8 rfl, Py44.X.cell 9 rfl, Py44.X.cell 10 rfl, Py44.X.cell 11 rfl, Py44.X.cell 12 rfl⟩, Py44⟩ ?_; clear hK K hHeld; intro hHeld; try simp only [Act.put, List.setIfInBounds_toArray, List.set_cons_zero, List.set_cons_succ]
          refine Tk.R 10 none (.store 79 (.tmp 4) (.tmp 9)) 0 none (fun K hK => ?_)
          have f0 := b_pB.R.cell 0 rfl
          have q0 := b_pB.R.froz 0 rfl
          have f1 := b_pB.R.cell 1 rfl
          have q1 := b_pB.R.froz 1 rfl
          go_simp
          clear f0 q0 f1 q1
          have Py450 := hHeld.2.out.of_mid (Mid.set y5 pB 0 (.int .i64 1)) b_pB.lo hA (by simp)
          replace b_pA := b_pA.other n_pA_pB.symm 0 (.int .i64 1)
          replace b_gh := b_gh.other n_gh_pB.symm 0 (.int .i64 1)
          replace b_pD := b_pD.other n_pB_pD 0 (.int .i64 1)
          replace b_pB := b_pB.set 0 (.int .i64 1)
          have Py451 := Py450.of_mid (Mid.set (y5.setCell ⟨pB, 0, none⟩ (.int .i64 1)) pB 1 (.int .i64 1000)) b_pB.lo hA (by simp)
          replace b_pA := b_pA.other n_pA_pB.symm 1 (.int .i64 1000)
          replace b_gh := b_gh.other n_gh_pB.symm 1 (.int .i64 1000)
          replace b_pD := b_pD.other n_pB_pD 1 (.int .i64 1000)
          replace b_pB := b_pB.set 1 (.int .i64 1000)
          have Py45 := Py451
          clear Py450 Py451
          generalize (y5.setCell ⟨pB, 0, none⟩ (.int .i64 1)).setCell ⟨pB, 1, none⟩ (.int .i64 1000) = y6 at Py45 b_pA b_gh b_pB b_pD ⊢
          try dsimp only
          refine hK.out _ _ ⟨⟨Py45.X.cell 0 rfl, Py45.X.cell 1 rfl, Py45.X.cell 2 rfl, Py45.X.cell 3 rfl, Py45.X.cell 4 rfl, Py45.X.cell 5 rfl, Py45.X.cell 6 rfl, Py45.X.cell 7 rfl, Py45.X.cell 8 rfl, Py45.X.cell 9 rfl, Py45.X.cell 10 rfl, Py45.X.cell 11 rfl, Py45.X.cell 12 rfl⟩, Py45⟩ ?_; clear hK K hHeld; intro hHeld; try simp only [Act.put, List.setIfInBounds_toArray, List.set_cons_zero, List.set_cons_succ]
          refine Tk.R 11 none (.store 79 (.tmp 5) (.tmp 12)) 0 none (fun K hK => ?_)
          have f0 := b_pD.R.cell 0 rfl
          have q0 := b_pD.R.froz 0 rfl
          have f1 := b_pD.R.cell 1 rfl
          have q1 := b_pD.R.froz 1 rfl
          go_simp
          clear f0 q0 f1 q1
          have Py460 := hHeld.2.out.of_mid (Mid.set y6 pD 0 (.int .i64 0)) b_pD.lo hA (by simp)
          replace b_pA := b_pA.other n_pA_pD.symm 0 (.int .i64 0)
          replace b_gh := b_gh.other n_gh_pD.symm 0 (.int .i64 0)
          replace b_pB := b_pB.other n_pB_pD.symm 0 (.int .i64 0)
          replace b_pD := b_pD.set 0 (.int .i64 0)
          have Py461 := Py460.of_mid (Mid.set (y6.setCell ⟨pD, 0, none⟩ (.int .i64 0)) pD 1 (.int .i64 c.now)) b_pD.lo hA (by simp)
          replace b_pA := b_pA.other n_pA_pD.symm 1 (.int .i64 c.now)
          replace b_gh := b_gh.other n_gh_pD.symm 1 (.int .i64 c.now)
          replace b_pB := b_pB.other n_pB_pD.symm 1 (.int .i64 c.now)
          replace b_pD := b_pD.set 1 (.int .i64 c.now)
          have Py46 := Py461
          clear Py460 Py461
          generalize (y6.setCell ⟨pD, 0, none⟩ (.int .i64 0)).setCell ⟨pD, 1, none⟩ (.int .i64 c.now) = y7 at Py46 b_pA b_gh b_pB b_pD ⊢
          try dsimp only
          refine hK.out _ _ ⟨⟨Py46.X.cell 0 rfl, Py46.X.cell 1 rfl, Py46.X.cell 2 rfl, Py46.X.cell 3 rfl, Py46.X.cell 4 rfl, Py46.X.cell 5 rfl, Py46.X.cell 6 rfl, Py46.X.cell 7 rfl, Py46.X.cell 8 rfl, Py46.X.cell 9 rfl, Py46.X.cell 10 rfl, Py46.X.cell 11 rfl, Py46.X.cell 12 rfl⟩, Py46⟩ ?_; clear hK K hHeld; intro hHeld; try simp only [Act.put, List.setIfInBounds_toArray, List.set_cons_zero, List.set_cons_succ]
          refine wpAnyH_done (by kernel_rfl) ?_ _
          refine NoPanic.normal ?_
          have PX := hHeld.2.out
          clear hHeld
          go_wp2_with fail
          go_meet
          case rel => exact ⟨pA, pB, pD, gh, ch, rfl, rfl, rfl, ⟨PX, b_pA, b_pB, b_pD, b_gh⟩⟩
        · go_simp
          have By47 := (Below.refl y2.heap.size y2).alloc (Nat.le_refl _) (.cells #[.int .i64 0, .int .i64 0] 79)
          have lty47 := hHeld.2.out.X.lt (by simp)
          have Py47 := hHeld.2.out.below By47
          obtain ⟨pD, h_pD⟩ : ∃ p, p = y2.heap.size := ⟨_, rfl⟩
          have b_pD := Bk.new (w := w) h_pD lty47 [.int .i64 0, .int .i64 0] 79
          have n_pA_pD : pA ≠ pD := by rw [h_pD]; exact Nat.ne_of_lt b_pA.lt
          replace b_pA := b_pA.below By47
          have n_gh_pD : gh ≠ pD := by rw [h_pD]; exact Nat.ne_of_lt b_gh.lt
          replace b_gh := b_gh.below By47
          rw [← h_pD]
          generalize y2.alloc (.cells #[.int .i64 0, .int .i64 0] 79) = y3 at Py47 b_pA b_gh b_pD ⊢
          clear By47 h_pD lty47
          try dsimp only
          refine hK.out _ _ ⟨⟨Py47.X.cell 0 rfl, Py47.X.cell 1 rfl, Py47.X.cell 2 rfl, Py47.X.cell 3 rfl, Py47.X.cell 4 rfl, Py47.X.cell 5 rfl, Py47.X.cell 6 rfl, Py47.X.cell 7 rfl, Py47.X.cell 8 rfl, Py47.X.cell 9 rfl, Py47.X.cell 10 rfl, Py47.X.cell 11 rfl, Py47.X.cell 12 rfl⟩, Py47⟩ ?_; clear hK K hHeld; intro hHeld; try simp only [Act.put, List.setIfInBounds_toArray, List.set_cons_zero, List.set_cons_succ]
          refine Tk.R 7 (some 4) (.alloc 79) 0 none (fun K hK => ?_)
          go_simp
          have By48 := (Below.refl y3.heap.size y3).alloc (Nat.le_refl _) (.cells #[.int .i64 0, .int .i64 0] 79)
          have lty48 := hHeld.2.out.X.lt (by simp)
          have Py48 := hHeld.2.out.below By48
          obtain ⟨pB, h_pB⟩ : ∃ p, p = y3.heap.size := ⟨_, rfl⟩
          have b_pB := Bk.new (w := w) h_pB lty48 [.int .i64 0, .int .i64 0] 79
          have n_pA_pB : pA ≠ pB := by rw [h_pB]; exact Nat.ne_of_lt b_pA.lt
          replace b_pA := b_pA.below By48
          have n_gh_pB : gh ≠ pB := by rw [h_pB]; exact Nat.ne_of_lt b_gh.lt
          replace b_gh := b_gh.below By48
          have n_pD_pB : pD ≠ pB := by rw [h_pB]; exact Nat.ne_of_lt b_pD.lt
          replace b_pD := b_pD.below By48
          rw [← h_pB]
          generalize y3.alloc (.cells #[.int .i64 0, .int .i64 0] 79) = y4 at Py48 b_pA b_gh b_pD b_pB ⊢
          clear By48 h_pB lty48
          try dsimp only
          refine hK.out _ _ ⟨⟨Py48.X.cell 0 rfl, Py48.X.cell 1 rfl, Py48.X.cell 2 rfl, Py48.X.cell 3 rfl, Py48.X.cell 4 rfl, Py48.X.cell 5 rfl, Py48.X.cell 6 rfl, Py48.X.cell 7 rfl, Py48.X.cell 8 rfl, Py48.X.cell 9 rfl, Py48.X.cell 10 rfl, Py48.X.cell 11 rfl, Py48.X.cell 12 rfl⟩, Py48⟩ ?_; clear hK K hHeld; intro hHeld; try simp only [Act.put, List.setIfInBounds_toArray, List.set_cons_zero, List.set_cons_succ]
          refine Tk.R 9 none (.store 26 (.tmp 3) (.tmp 8)) 0 none (fun K hK => ?_)
          have f0 := b_pA.R.cell 0 rfl
          have q0 := b_pA.R.froz 0 rfl
          go_simp
          clear f0 q0
          have Py490 := hHeld.2.out.of_mid (Mid.set y4 pA 0 (.slice (some ⟨gh, 0, none⟩) (HN c.bs c.bs.length).length ch)) b_pA.lo hA (by simp)
          replace b_gh := b_gh.other n_pA_gh 0 (.slice (some ⟨gh, 0, none⟩) (HN c.bs c.bs.length).length ch)
          replace b_pD := b_pD.other n_pA_pD 0 (.slice (some ⟨gh, 0, none⟩) (HN c.bs c.bs.length).length ch)
          replace b_pB := b_pB.other n_pA_pB 0 (.slice (some ⟨gh, 0, none⟩) (HN c.bs c.bs.length).length ch)
          replace b_pA := b_pA.set 0 (.slice (some ⟨gh, 0, none⟩) (HN c.bs c.bs.length).length ch)
          have Py49 := Py490
          clear Py490
          generalize y4.setCell ⟨pA, 0, none⟩ (.slice (some ⟨gh, 0, none⟩) (HN c.bs c.bs.length).length ch) = y5 at Py49 b_pA b_gh b_pD b_pB ⊢
          try dsimp only
          refine hK.out _ _ ⟨⟨Py49.X.cell 0 rfl, Py49.X.cell 1 rfl, Py49.X.cell 2 rfl, Py49.X.cell 3 rfl, Py49.X.cell 4 rfl, Py49.X.cell 5 rfl, Py49.X.cell 6 rfl, Py49.X.cell 7 rfl, Py49.X.cell 8 rfl, Py49.X.cell 9 rfl, Py49.X.cell 10 rfl, Py49.X.cell 11 rfl, Py49.X.cell 12 rfl⟩, Py49⟩ ?_; clear hK K hHeld; intro hHeld; try simp only [Act.put, List.setIfInBounds_toArray, List.set_cons_zero, List.set_cons_succ]
          refine Tk.R 10 none (.store 79 (.tmp 4) (.tmp 9)) 0 none (fun K hK => ?_)
          have f0 := b_pB.R.cell 0 rfl
          have q0 := b_pB.R.froz 0 rfl
          have f1 := b_pB.R.cell 1 rfl
          have q1 := b_pB.R.froz 1 rfl
          go_simp
          clear f0 q0 f1 q1
          have Py500 := hHeld.2.out.of_mid (Mid.set y5 pB 0 (.int .i64 1)) b_pB.lo hA (by simp)
          replace b_pA := b_pA.other n_pA_pB.symm 0 (.int .i64 1)
          replace b_gh := b_gh.other n_gh_pB.symm 0 (.int .i64 1)
          replace b_pD := b_pD.other n_pD_pB.symm 0 (.int .i64 1)
          replace b_pB := b_pB.set 0 (.int .i64 1)
          have Py501 := Py500.of_mid (Mid.set (y5.setCell ⟨pB, 0, none⟩ (.int .i64 1)) pB 1 (.int .i64 1000)) b_pB.lo hA (by simp)
          replace b_pA := b_pA.other n_pA_pB.symm 1 (.int .i64 1000)
          replace b_gh := b_gh.other n_gh_pB.symm 1 (.int .i64 1000)
          replace b_pD := b_pD.other n_pD_pB.symm 1 (.int .i64 1000)
          replace b_pB := b_pB.set 1 (.int .i64 1000)
          have Py50 := Py501
          clear Py500 Py501
          generalize (y5.setCell ⟨pB, 0, none⟩ (.int .i64 1)).setCell ⟨pB, 1, none⟩ (.int .i64 1000) = y6 at Py50 b_pA b_gh b_pD b_pB ⊢
          try dsimp only
          refine hK.out _ _ ⟨⟨Py50.X.cell 0 rfl, Py50.X.cell 1 rfl, Py50.X.cell 2 rfl, Py50.X.cell 3 rfl, Py50.X.cell 4 rfl, Py50.X.cell 5 rfl, Py50.X.cell 6 rfl, Py50.X.cell 7 rfl, Py50.X.cell 8 rfl, Py50.X.cell 9 rfl, Py50.X.cell 10 rfl, Py50.X.cell 11 rfl, Py50.X.cell 12 rfl⟩, Py50⟩ ?_; clear hK K hHeld; intro hHeld; try simp only [Act.put, List.setIfInBounds_toArray, List.set_cons_zero, List.set_cons_succ]
          refine Tk.R 11 none (.store 79 (.tmp 5) (.tmp 12)) 0 none (fun K hK => ?_)
          have f0 := b_pD.R.cell 0 rfl
          have q0 := b_pD.R.froz 0 rfl
          have f1 := b_pD.R.cell 1 rfl
          have q1 := b_pD.R.froz 1 rfl
          go_simp
          clear f0 q0 f1 q1
          have Py510 := hHeld.2.out.of_mid (Mid.set y6 pD 0 (.int .i64 0)) b_pD.lo hA (by simp)
          replace b_pA := b_pA.other n_pA_pD.symm 0 (.int .i64 0)
          replace b_gh := b_gh.other n_gh_pD.symm 0 (.int .i64 0)
          replace b_pB := b_pB.other n_pD_pB 0 (.int .i64 0)
          replace b_pD := b_pD.set 0 (.int .i64 0)
          have Py511 := Py510.of_mid (Mid.set (y6.setCell ⟨pD, 0, none⟩ (.int .i64 0)) pD 1 (.int .i64 c.now)) b_pD.lo hA (by simp)
          replace b_pA := b_pA.other n_pA_pD.symm 1 (.int .i64 c.now)
          replace b_gh := b_gh.other n_gh_pD.symm 1 (.int .i64 c.now)
          replace b_pB := b_pB.other n_pD_pB 1 (.int .i64 c.now)
          replace b_pD := b_pD.set 1 (.int .i64 c.now)
          have Py51 := Py511
          clear Py510 Py511
          generalize (y6.setCell ⟨pD, 0, none⟩ (.int .i64 0)).setCell ⟨pD, 1, none⟩ (.int .i64 c.now) = y7 at Py51 b_pA b_gh b_pD b_pB ⊢
          try dsimp only
          refine hK.out _ _ ⟨⟨Py51.X.cell 0 rfl, Py51.X.cell 1 rfl, Py51.X.cell 2 rfl, Py51.X.cell 3 rfl, Py51.X.cell 4 rfl, Py51.X.cell 5 rfl, Py51.X.cell 6 rfl, Py51.X.cell 7 rfl, Py51.X.cell 8 rfl, Py51.X.cell 9 rfl, Py51.X.cell 10 rfl, Py51.X.cell 11 rfl, Py51.X.cell 12 rfl⟩, Py51⟩ ?_; clear hK K hHeld; intro hHeld; try simp only [Act.put, List.setIfInBounds_toArray, List.set_cons_zero, List.set_cons_succ]
          refine wpAnyH_done (by kernel_rfl) ?_ _
          refine NoPanic.normal ?_
          have PX := hHeld.2.out
          clear hHeld
          go_wp2_with fail
          go_meet
          case rel => exact ⟨pA, pB, pD, gh, ch, rfl, rfl, rfl, ⟨PX, b_pA, b_pB, b_pD, b_gh⟩⟩
      · go_simp
        have By52 := (Below.refl y1.heap.size y1).alloc (Nat.le_refl _) (.cells #[.int .i64 0, .int .i64 0] 79)
        have lty52 := hHeld.2.out.X.lt (by simp)
        have Py52 := hHeld.2.out.below By52
        obtain ⟨pB, h_pB⟩ : ∃ p, p = y1.heap.size := ⟨_, rfl⟩
        have b_pB := Bk.new (w := w) h_pB lty52 [.int .i64 0, .int .i64 0] 79
        have n_pA_pB : pA ≠ pB := by rw [h_pB]; exact Nat.ne_of_lt b_pA.lt
        replace b_pA := b_pA.below By52
        rw [← h_pB]
        generalize y1.alloc (.cells #[.int .i64 0, .int .i64 0] 79) = y2 at Py52 b_pA b_pB ⊢
        clear By52 h_pB lty52
        try dsimp only
        refine hK.out _ _ ⟨⟨Py52.X.cell 0 rfl, Py52.X.cell 1 rfl, Py52.X.cell 2 rfl, Py52.X.cell 3 rfl, Py52.X.cell 4 rfl, Py52.X.cell 5 rfl, Py52.X.cell 6 rfl, Py52.X.cell 7 rfl, Py52.X.cell 8 rfl, Py52.X.cell 9 rfl, Py52.X.cell 10 rfl, Py52.X.cell 11 rfl, Py52.X.cell 12 rfl⟩, Py52⟩ ?_; clear hK K hHeld; intro hHeld; try simp only [Act.put, List.setIfInBounds_toArray, List.set_cons_zero, List.set_cons_succ]
        refine wpAnyH_ready (rs := [1, 8]) (by kernel_rfl) (by simp) ?_
        refine (AllReadyH.cons (o := ⟨some 8, .call ⟨.value (.func 49), #[.tmp 7], #[35]⟩, 26, _, _, none⟩) rfl (fun K hK => ?_) (AllReadyH.cons (o := ⟨some 5, .alloc 79, 0, _, _, none⟩) rfl (fun K hK => ?_) AllReadyH.nil))
        · go_simp
          refine (i_bareHonest c _ _ _ _ _ _ _ _ _ _ _ _ _ hHeld.2.out.A hb1 HPB.out).mono ?_
          rintro e y3 ⟨⟨gh, ch, rfl, oh⟩, by53⟩
          have Py53 := hHeld.2.out.below by53
          have b_gh : Bk w y3 gh (ints (HN c.bs c.bs.length)) := Bk.own oh (hHeld.2.out.X.lt (by simp))
          have hge : y2.heap.size ≤ gh := oh.data.2.1
          clear oh
          have n_pA_gh : pA ≠ gh := Nat.ne_of_lt (Nat.lt_of_lt_of_le b_pA.lt hge)
          replace b_pA := b_pA.below by53
          have n_pB_gh : pB ≠ gh := Nat.ne_of_lt (Nat.lt_of_lt_of_le b_pB.lt hge)
          replace b_pB := b_pB.below by53
          clear by53 hge
          try dsimp only
          refine hK.out _ _ ⟨⟨Py53.X.cell 0 rfl, Py53.X.cell 1 rfl, Py53.X.cell 2 rfl, Py53.X.cell 3 rfl, Py53.X.cell 4 rfl, Py53.X.cell 5 rfl, Py53.X.cell 6 rfl, Py53.X.cell 7 rfl, Py53.X.cell 8 rfl, Py53.X.cell 9 rfl, Py53.X.cell 10 rfl, Py53.X.cell 11 rfl, Py53.X.cell 12 rfl⟩, Py53⟩ ?_; clear hK K hHeld; intro hHeld; try simp only [Act.put, List.setIfInBounds_toArray, List.set_cons_zero, List.set_cons_succ]
          refine Tk.R 8 (some 5) (.alloc 79) 0 none (fun K hK => ?_)
          go_simp
          have By54 := (Below.refl y3.heap.size y3).alloc (Nat.le_refl _) (.cells #[.int .i64 0, .int .i64 0] 79)
          have lty54 := hHeld.2.out.X.lt (by simp)
          have Py54 := hHeld.2.out.below By54
          obtain ⟨pD, h_pD⟩ : ∃ p, p = y3.heap.size := ⟨_, rfl⟩
          have b_pD := Bk.new (w := w) h_pD lty54 [.int .i64 0, .int .i64 0] 79
          have n_pA_pD : pA ≠ pD := by rw [h_pD]; exact Nat.ne_of_lt b_pA.lt
          replace b_pA := b_pA.below By54
          have n_pB_pD : pB ≠ pD := by rw [h_pD]; exact Nat.ne_of_lt b_pB.lt
          replace b_pB := b_pB.below By54
          have n_gh_pD : gh ≠ pD := by rw [h_pD]; exact Nat.ne_of_lt b_gh.lt
          replace b_gh := b_gh.below By54
          rw [← h_pD]
          generalize y3.alloc (.cells #[.int .i64 0, .int .i64 0] 79) = y4 at Py54 b_pA b_pB b_gh b_pD ⊢
          clear By54 h_pD lty54
          try dsimp only
          refine hK.out _ _ ⟨⟨Py54.X.cell 0 rfl, Py54.X.cell 1 rfl, Py54.X.cell 2 rfl, Py54.X.cell 3 rfl, Py54.X.cell 4 rfl, Py54.X.cell 5 rfl, Py54.X.cell 6 rfl, Py54.X.cell 7 rfl, Py54.X.cell 8 rfl, Py54.X.cell 9 rfl, Py54.X.cell 10 rfl, Py54.X.cell 11 rfl, Py54.X.cell 12 rfl⟩, Py54⟩ ?_; clear hK K hHeld; intro hHeld; try simp only [Act.put, List.setIfInBounds_toArray, List.set_cons_zero, List.set_cons_succ]
          refine Tk.R 9 none (.store 26 (.tmp 3) (.tmp 8)) 0 none (fun K hK => ?_)
          have f0 := b_pA.R.cell 0 rfl
          have q0 := b_pA.R.froz 0 rfl
          go_simp
          clear f0 q0
          have Py550 := hHeld.2.out.of_mid (Mid.set y4 pA 0 (.slice (some ⟨gh, 0, none⟩) (HN c.bs c.bs.length).length ch)) b_pA.lo hA (by simp)
          replace b_pB := b_pB.other n_pA_pB 0 (.slice (some ⟨gh, 0, none⟩) (HN c.bs c.bs.length).length ch)
          replace b_gh := b_gh.other n_pA_gh 0 (.slice (some ⟨gh, 0, none⟩) (HN c.bs c.bs.length).length ch)
          replace b_pD := b_pD.other n_pA_pD 0 (.slice (some ⟨gh, 0, none⟩) (HN c.bs c.bs.length).length ch)
          replace b_pA := b_pA.set 0 (.slice (some ⟨gh, 0, none⟩) (HN c.bs c.bs.length).length ch)
          have Py55 := Py550
          clear Py550
          generalize y4.setCell ⟨pA, 0, none⟩ (.slice (some ⟨gh, 0, none⟩) (HN c.bs c.bs.length).length ch) = y5 at Py55 b_pA b_pB b_gh b_pD ⊢
          try dsimp only
          refine hK.out _ _ ⟨⟨Py55.X.cell 0 rfl, Py55.X.cell 1 rfl, Py55.X.cell 2 rfl, Py55.X.cell 3 rfl, Py55.X.cell 4 rfl, Py55.X.cell 5 rfl, Py55.X.cell 6 rfl, Py55.X.cell 7 rfl, Py55.X.cell 8 rfl, Py55.X.cell 9 rfl, Py55.X.cell 10 rfl, Py55.X.cell 11 rfl, Py55.X.cell 12 rfl⟩, Py55⟩ ?_; clear hK K hHeld; intro hHeld; try simp only [Act.put, List.setIfInBounds_toArray, List.set_cons_zero, List.set_cons_succ]
          refine Tk.R 10 none (.store 79 (.tmp 4) (.tmp 9)) 0 none (fun K hK => ?_)
          have f0 := b_pB.R.cell 0 rfl
          have q0 := b_pB.R.froz 0 rfl
          have f1 := b_pB.R.cell 1 rfl
          have q1 := b_pB.R.froz 1 rfl
          go_simp
          clear f0 q0 f1 q1
          have Py560 := hHeld.2.out.of_mid (Mid.set y5 pB 0 (.int .i64 1)) b_pB.lo hA (by simp)
          replace b_pA := b_pA.other n_pA_pB.symm 0 (.int .i64 1)
          replace b_gh := b_gh.other n_pB_gh 0 (.int .i64 1)
          replace b_pD := b_pD.other n_pB_pD 0 (.int .i64 1)
          replace b_pB := b_pB.set 0 (.int .i64 1)
          have Py561 := Py560.of_mid (Mid.set (y5.setCell ⟨pB, 0, none⟩ (.int .i64 1)) pB 1 (.int .i64 1000)) b_pB.lo hA (by simp)
          replace b_pA := b_pA.other n_pA_pB.symm 1 (.int .i64 1000)
          replace b_gh := b_gh.other n_pB_gh 1 (.int .i64 1000)
          replace b_pD := b_pD.other n_pB_pD 1 (.int .i64 1000)
          replace b_pB := b_pB.set 1 (.int .i64 1000)
          have Py56 := Py561
          clear Py560 Py561
          generalize (y5.setCell ⟨pB, 0, none⟩ (.int .i64 1)).setCell ⟨pB, 1, none⟩ (.int .i64 1000) = y6 at Py56 b_pA b_pB b_gh b_pD ⊢
          try dsimp only
          refine hK.out _ _ ⟨⟨Py56.X.cell 0 rfl, Py56.X.cell 1 rfl, Py56.X.cell 2 rfl, Py56.X.cell 3 rfl, Py56.X.cell 4 rfl, Py56.X.cell 5 rfl, Py56.X.cell 6 rfl, Py56.X.cell 7 rfl, Py56.X.cell 8 rfl, Py56.X.cell 9 rfl, Py56.X.cell 10 rfl, Py56.X.cell 11 rfl, Py56.X.cell 12 rfl⟩, Py56⟩ ?_; clear hK K hHeld; intro hHeld; try simp only [Act.put, List.setIfInBounds_toArray, List.set_cons_zero, List.set_cons_succ]
          refine Tk.R 11 none (.store 79 (.tmp 5) (.tmp 12)) 0 none (fun K hK => ?_)
          have f0 := b_pD.R.cell 0 rfl
          have q0 := b_pD.R.froz 0 rfl
          have f1 := b_pD.R.cell 1 rfl
          have q1 := b_pD.R.froz 1 rfl
          go_simp
          clear f0 q0 f1 q1
          have Py570 := hHeld.2.out.of_mid (Mid.set y6 pD 0 (.int .i64 0)) b_pD.lo hA (by simp)
          replace b_pA := b_pA.other n_pA_pD.symm 0 (.int .i64 0)
          replace b_pB := b_pB.other n_pB_pD.symm 0 (.int .i64 0)
          replace b_gh := b_gh.other n_gh_pD.symm 0 (.int .i64 0)
          replace b_pD := b_pD.set 0 (.int .i64 0)
          have Py571 := Py570.of_mid (Mid.set (y6.setCell ⟨pD, 0, none⟩ (.int .i64 0)) pD 1 (.int .i64 c.now)) b_pD.lo hA (by simp)
          replace b_pA := b_pA.other n_pA_pD.symm 1 (.int .i64 c.now)
          replace b_pB := b_pB.other n_pB_pD.symm 1 (.int .i64 c.now)
          replace b_gh := b_gh.other n_gh_pD.symm 1 (.int .i64 c.now)
          replace b_pD := b_pD.set 1 (.int .i64 c.now)
          have Py57 := Py571
          clear Py570 Py571
          generalize (y6.setCell ⟨pD, 0, none⟩ (.int .i64 0)).setCell ⟨pD, 1, none⟩ (.int .i64 c.now) = y7 at Py57 b_pA b_pB b_gh b_pD ⊢
          try dsimp only
          refine hK.out _ _ ⟨⟨Py57.X.cell 0 rfl, Py57.X.cell 1 rfl, Py57.X.cell 2 rfl, Py57.X.cell 3 rfl, Py57.X.cell 4 rfl, Py57.X.cell 5 rfl, Py57.X.cell 6 rfl, Py57.X.cell 7 rfl, Py57.X.cell 8 rfl, Py57.X.cell 9 rfl, Py57.X.cell 10 rfl, Py57.X.cell 11 rfl, Py57.X.cell 12 rfl⟩, Py57⟩ ?_; clear hK K hHeld; intro hHeld; try simp only [Act.put, List.setIfInBounds_toArray, List.set_cons_zero, List.set_cons_succ]
          refine wpAnyH_done (by kernel_rfl) ?_ _
          refine NoPanic.normal ?_
          have PX := hHeld.2.out
          clear hHeld
          go_wp2_with fail
          go_meet
          case rel => exact ⟨pA, pB, pD, gh, ch, rfl, rfl, rfl, ⟨PX, b_pA, b_pB, b_pD, b_gh⟩⟩
        · go_simp
          have By58 := (Below.refl y2.heap.size y2).alloc (Nat.le_refl _) (.cells #[.int .i64 0, .int .i64 0] 79)
          have lty58 := hHeld.2.out.X.lt (by simp)
          have Py58 := hHeld.2.out.below By58
          obtain ⟨pD, h_pD⟩ : ∃ p, p = y2.heap.size := ⟨_, rfl⟩
          have b_pD := Bk.new (w := w) h_pD lty58 [.int .i64 0, .int .i64 0] 79
          have n_pA_pD : pA ≠ pD := by rw [h_pD]; exact Nat.ne_of_lt b_pA.lt
          replace b_pA := b_pA.below By58
          have n_pB_pD : pB ≠ pD := by rw [h_pD]; exact Nat.ne_of_lt b_pB.lt
          replace b_pB := b_pB.below By58
          rw [← h_pD]
          generalize y2.alloc (.cells #[.int .i64 0, .int .i64 0] 79) = y3 at Py58 b_pA b_pB b_pD ⊢
          clear By58 h_pD lty58
          try dsimp only
          refine hK.out _ _ ⟨⟨Py58.X.cell 0 rfl, Py58.X.cell 1 rfl, Py58.X.cell 2 rfl, Py58.X.cell 3 rfl, Py58.X.cell 4 rfl, Py58.X.cell 5 rfl, Py58.X.cell 6 rfl, Py58.X.cell 7 rfl, Py58.X.cell 8 rfl, Py58.X.cell 9 rfl, Py58.X.cell 10 rfl, Py58.X.cell 11 rfl, Py58.X.cell 12 rfl⟩, Py58⟩ ?_; clear hK K hHeld; intro hHeld; try simp only [Act.put, List.setIfInBounds_toArray, List.set_cons_zero, List.set_cons_succ]
          refine Tk.R 1 (some 8) (.call ⟨.value (.func 49), #[.tmp 7], #[35]⟩) 26 none (fun K hK => ?_)
          go_simp
          refine (i_bareHonest c _ _ _ _ _ _ _ _ _ _ _ _ _ hHeld.2.out.A hb1 HPB.out).mono ?_
          rintro e y4 ⟨⟨gh, ch, rfl, oh⟩, by59⟩
          have Py59 := hHeld.2.out.below by59
          have b_gh : Bk w y4 gh (ints (HN c.bs c.bs.length)) := Bk.own oh (hHeld.2.out.X.lt (by simp))
          have hge : y3.heap.size ≤ gh := oh.data.2.1
          clear oh
          have n_pA_gh : pA ≠ gh := Nat.ne_of_lt (Nat.lt_of_lt_of_le b_pA.lt hge)
          replace b_pA := b_pA.below by59
          have n_pB_gh : pB ≠ gh := Nat.ne_of_lt (Nat.lt_of_lt_of_le b_pB.lt hge)
          replace b_pB := b_pB.below by59
          have n_pD_gh : pD ≠ gh := Nat.ne_of_lt (Nat.lt_of_lt_of_le b_pD.lt hge)
          replace b_pD := b_pD.below by59
          clear by59 hge
          try dsimp only
          refine hK.out _ _ ⟨⟨Py59.X.cell 0 rfl, Py59.X.cell 1 rfl, Py59.X.cell 2 rfl, Py59.X.cell 3 rfl, Py59.X.cell 4 rfl, Py59.X.cell 5 rfl, Py59.X.cell 6 rfl, Py59.X.cell 7 rfl, Py59.X.cell 8 rfl, Py59.X.cell 9 rfl, Py59.X.cell 10 rfl, Py59.X.cell 11 rfl, Py59.X.cell 12 rfl⟩, Py59⟩ ?_; clear hK K hHeld; intro hHeld; try simp only [Act.put, List.setIfInBounds_toArray, List.set_cons_zero, List.set_cons_succ]
          refine Tk.R 9 none (.store 26 (.tmp 3) (.tmp 8)) 0 none (fun K hK => ?_)
          have f0 := b_pA.R.cell 0 rfl
          have q0 := b_pA.R.froz 0 rfl
          go_simp
          clear f0 q0
          have Py600 := hHeld.2.out.of_mid (Mid.set y4 pA 0 (.slice (some ⟨gh, 0, none⟩) (HN c.bs c.bs.length).length ch)) b_pA.lo hA (by simp)
          replace b_pB := b_pB.other n_pA_pB 0 (.slice (some ⟨gh, 0, none⟩) (HN c.bs c.bs.length).length ch)
          replace b_pD := b_pD.other n_pA_pD 0 (.slice (some ⟨gh, 0, none⟩) (HN c.bs c.bs.length).length ch)
          replace b_gh := b_gh.other n_pA_gh 0 (.slice (some ⟨gh, 0, none⟩) (HN c.bs c.bs.length).length ch)
          replace b_pA := b_pA.set 0 (.slice (some ⟨gh, 0, none⟩) (HN c.bs c.bs.length).length ch)
          have Py60 := Py600
          clear Py600
          generalize y4.setCell ⟨pA, 0, none⟩ (.slice (some ⟨gh, 0, none⟩) (HN c.bs c.bs.length).length ch) = y5 at Py60 b_pA b_pB b_pD b_gh ⊢
          try dsimp only
          refine hK.out _ _ ⟨⟨Py60.X.cell 0 rfl, Py60.X.cell 1 rfl, Py60.X.cell 2 rfl, Py60.X.cell 3 rfl, Py60.X.cell 4 rfl, Py60.X.cell 5 rfl, Py60.X.cell 6 rfl, Py60.X.cell 7 rfl, Py60.X.cell 8 rfl, Py60.X.cell 9 rfl, Py60.X.cell 10 rfl, Py60.X.cell 11 rfl, Py60.X.cell 12 rfl⟩, Py60⟩ ?_; clear hK K hHeld; intro hHeld; try simp only [Act.put, List.setIfInBounds_toArray, List.set_cons_zero, List.set_cons_succ]
          refine Tk.R 10 none (.store 79 (.tmp 4) (.tmp 9)) 0 none (fun K hK => ?_)
          have f0 := b_pB.R.cell 0 rfl
          have q0 := b_pB.R.froz 0 rfl
          have f1 := b_pB.R.cell 1 rfl
          have q1 := b_pB.R.froz 1 rfl
          go_simp
          clear f0 q0 f1 q1
          have Py610 := hHeld.2.out.of_mid (Mid.set y5 pB 0 (.int .i64 1)) b_pB.lo hA (by simp)
          replace b_pA := b_pA.other n_pA_pB.symm 0 (.int .i64 1)
          replace b_pD := b_pD.other n_pB_pD 0 (.int .i64 1)
          replace b_gh := b_gh.other n_pB_gh 0 (.int .i64 1)
          replace b_pB := b_pB.set 0 (.int .i64 1)
          have Py611 := Py610.of_mid (Mid.set (y5.setCell ⟨pB, 0, none⟩ (.int .i64 1)) pB 1 (.int .i64 1000)) b_pB.lo hA (by simp)
          replace b_pA := b_pA.other n_pA_pB.symm 1 (.int .i64 1000)
          replace b_pD := b_pD.other n_pB_pD 1 (.int .i64 1000)
          replace b_gh := b_gh.other n_pB_gh 1 (.int .i64 1000)
          replace b_pB := b_pB.set 1 (.int .i64 1000)
          have Py61 := Py611
          clear Py610 Py611
          generalize (y5.setCell ⟨pB, 0, none⟩ (.int .i64 1)).setCell ⟨pB, 1, none⟩ (.int .i64 1000) = y6 at Py61 b_pA b_pB b_pD b_gh ⊢
          try dsimp only
          refine hK.out _ _ ⟨⟨Py61.X.cell 0 rfl, Py61.X.cell 1 rfl, Py61.X.cell 2 rfl, Py61.X.cell 3 rfl, Py61.X.cell 4 rfl, Py61.X.cell 5 rfl, Py61.X.cell 6 rfl, Py61.X.cell 7 rfl, Py61.X.cell 8 rfl, Py61.X.cell 9 rfl, Py61.X.cell 10 rfl, Py61.X.cell 11 rfl, Py61.X.cell 12 rfl⟩, Py61⟩ ?_; clear hK K hHeld; intro hHeld; try simp only [Act.put, List.setIfInBounds_toArray, List.set_cons_zero, List.set_cons_succ]
          refine Tk.R 11 none (.store 79 (.tmp 5) (.tmp 12)) 0 none (fun K hK => ?_)
          have f0 := b_pD.R.cell 0 rfl
          have q0 := b_pD.R.froz 0 rfl
          have f1 := b_pD.R.cell 1 rfl
          have q1 := b_pD.R.froz 1 rfl
          go_simp
          clear f0 q0 f1 q1
          have Py620 := hHeld.2.out.of_mid (Mid.set y6 pD 0 (.int .i64 0)) b_pD.lo hA (by simp)
          replace b_pA := b_pA.other n_pA_pD.symm 0 (.int .i64 0)
          replace b_pB := b_pB.other n_pB_pD.symm 0 (.int .i64 0)
          replace b_gh := b_gh.other n_pD_gh 0 (.int .i64 0)
          replace b_pD := b_pD.set 0 (.int .i64 0)
          have Py621 := Py620.of_mid (Mid.set (y6.setCell ⟨pD, 0, none⟩ (.int .i64 0)) pD 1 (.int .i64 c.now)) b_pD.lo hA (by simp)
          replace b_pA := b_pA.other n_pA_pD.symm 1 (.int .i64 c.now)
          replace b_pB := b_pB.other n_pB_pD.symm 1 (.int .i64 c.now)
          replace b_gh := b_gh.other n_pD_gh 1 (.int .i64 c.now)
          replace b_pD := b_pD.set 1 (.int .i64 c.now)
          have Py62 := Py621
          clear Py620 Py621
          generalize (y6.setCell ⟨pD, 0, none⟩ (.int .i64 0)).setCell ⟨pD, 1, none⟩ (.int .i64 c.now) = y7 at Py62 b_pA b_pB b_pD b_gh ⊢
          try dsimp only
          refine hK.out _ _ ⟨⟨Py62.X.cell 0 rfl, Py62.X.cell 1 rfl, Py62.X.cell 2 rfl, Py62.X.cell 3 rfl, Py62.X.cell 4 rfl, Py62.X.cell 5 rfl, Py62.X.cell 6 rfl, Py62.X.cell 7 rfl, Py62.X.cell 8 rfl, Py62.X.cell 9 rfl, Py62.X.cell 10 rfl, Py62.X.cell 11 rfl, Py62.X.cell 12 rfl⟩, Py62⟩ ?_; clear hK K hHeld; intro hHeld; try simp only [Act.put, List.setIfInBounds_toArray, List.set_cons_zero, List.set_cons_succ]
          refine wpAnyH_done (by kernel_rfl) ?_ _
          refine NoPanic.normal ?_
          have PX := hHeld.2.out
          clear hHeld
          go_wp2_with fail
          go_meet
          case rel => exact ⟨pA, pB, pD, gh, ch, rfl, rfl, rfl, ⟨PX, b_pA, b_pB, b_pD, b_gh⟩⟩
      · go_simp
        have By63 := (Below.refl y1.heap.size y1).alloc (Nat.le_refl _) (.cells #[.int .i64 0, .int .i64 0] 79)
        have lty63 := hHeld.2.out.X.lt (by simp)
        have Py63 := hHeld.2.out.below By63
        obtain ⟨pD, h_pD⟩ : ∃ p, p = y1.heap.size := ⟨_, rfl⟩
        have b_pD := Bk.new (w := w) h_pD lty63 [.int .i64 0, .int .i64 0] 79
        have n_pA_pD : pA ≠ pD := by rw [h_pD]; exact Nat.ne_of_lt b_pA.lt
        replace b_pA := b_pA.below By63
        rw [← h_pD]
        generalize y1.alloc (.cells #[.int .i64 0, .int .i64 0] 79) = y2 at Py63 b_pA b_pD ⊢
        clear By63 h_pD lty63
        try dsimp only
        refine hK.out _ _ ⟨⟨Py63.X.cell 0 rfl, Py63.X.cell 1 rfl, Py63.X.cell 2 rfl, Py63.X.cell 3 rfl, Py63.X.cell 4 rfl, Py63.X.cell 5 rfl, Py63.X.cell 6 rfl, Py63.X.cell 7 rfl, Py63.X.cell 8 rfl, Py63.X.cell 9 rfl, Py63.X.cell 10 rfl, Py63.X.cell 11 rfl, Py63.X.cell 12 rfl⟩, Py63⟩ ?_; clear hK K hHeld; intro hHeld; try simp only [Act.put, List.setIfInBounds_toArray, List.set_cons_zero, List.set_cons_succ]
        refine wpAnyH_ready (rs := [1, 7]) (by kernel_rfl) (by simp) ?_
        refine (AllReadyH.cons (o := ⟨some 8, .call ⟨.value (.func 49), #[.tmp 7], #[35]⟩, 26, _, _, none⟩) rfl (fun K hK => ?_) (AllReadyH.cons (o := ⟨some 4, .alloc 79, 0, _, _, none⟩) rfl (fun K hK => ?_) AllReadyH.nil))
        · go_simp
          refine (i_bareHonest c _ _ _ _ _ _ _ _ _ _ _ _ _ hHeld.2.out.A hb1 HPB.out).mono ?_
          rintro e y3 ⟨⟨gh, ch, rfl, oh⟩, by64⟩
          have Py64 := hHeld.2.out.below by64
          have b_gh : Bk w y3 gh (ints (HN c.bs c.bs.length)) := Bk.own oh (hHeld.2.out.X.lt (by simp))
          have hge : y2.heap.size ≤ gh := oh.data.2.1
          clear oh
          have n_pA_gh : pA ≠ gh := Nat.ne_of_lt (Nat.lt_of_lt_of_le b_pA.lt hge)
          replace b_pA := b_pA.below by64
          have n_pD_gh : pD ≠ gh := Nat.ne_of_lt (Nat.lt_of_lt_of_le b_pD.lt hge)
          replace b_pD := b_pD.below by64
          clear by64 hge
          try dsimp only
          refine hK.out _ _ ⟨⟨Py64.X.cell 0 rfl, Py64.X.cell 1 rfl, Py64.X.cell 2 rfl, Py64.X.cell 3 rfl, Py64.X.cell 4 rfl, Py64.X.cell 5 rfl, Py64.X.cell 6 rfl, Py64.X.cell 7 rfl, Py64.X.cell 8 rfl, Py64.X.cell 9 rfl, Py64.X.cell 10 rfl, Py64.X.cell 11 rfl, Py64.X.cell 12 rfl⟩, Py64⟩ ?_; clear hK K hHeld; intro hHeld; try simp only [Act.put, List.setIfInBounds_toArray, List.set_cons_zero, List.set_cons_succ]
          refine Tk.R 7 (some 4) (.alloc 79) 0 none (fun K hK => ?_)
          go_simp
          have By65 := (Below.refl y3.heap.size y3).alloc (Nat.le_refl _) (.cells #[.int .i64 0, .int .i64 0] 79)
          have lty65 := hHeld.2.out.X.lt (by simp)
          have Py65 := hHeld.2.out.below By65
          obtain ⟨pB, h_pB⟩ : ∃ p, p = y3.heap.size := ⟨_, rfl⟩
          have b_pB := Bk.new (w := w) h_pB lty65 [.int .i64 0, .int .i64 0] 79
          have n_pA_pB : pA ≠ pB := by rw [h_pB]; exact Nat.ne_of_lt b_pA.lt
          replace b_pA := b_pA.below By65
          have n_pD_pB : pD ≠ pB := by rw [h_pB]; exact Nat.ne_of_lt b_pD.lt
          replace b_pD := b_pD.below By65
          have n_gh_pB : gh ≠ pB := by rw [h_pB]; exact Nat.ne_of_lt b_gh.lt
          replace b_gh := b_gh.below By65
          rw [← h_pB]
          generalize y3.alloc (.cells #[.int .i64 0, .int .i64 0] 79) = y4 at Py65 b_pA b_pD b_gh b_pB ⊢
          clear By65 h_pB lty65
          try dsimp only
          refine hK.out _ _ ⟨⟨Py65.X.cell 0 rfl, Py65.X.cell 1 rfl, Py65.X.cell 2 rfl, Py65.X.cell 3 rfl, Py65.X.cell 4 rfl, Py65.X.cell 5 rfl, Py65.X.cell 6 rfl, Py65.X.cell 7 rfl, Py65.X.cell 8 rfl, Py65.X.cell 9 rfl, Py65.X.cell 10 rfl, Py65.X.cell 11 rfl, Py65.X.cell 12 rfl⟩, Py65⟩ ?_; clear hK K hHeld; intro hHeld; try simp only [Act.put, List.setIfInBounds_toArray, List.set_cons_zero, List.set_cons_succ]
          refine Tk.R 9 none (.store 26 (.tmp 3) (.tmp 8)) 0 none (fun K hK => ?_)
          have f0 := b_pA.R.cell 0 rfl
          have q0 := b_pA.R.froz 0 rfl
          go_simp
          clear f0 q0
          have Py660 := hHeld.2.out.of_mid (Mid.set y4 pA 0 (.slice (some ⟨gh, 0, none⟩) (HN c.bs c.bs.length).length ch)) b_pA.lo hA (by simp)
          replace b_pD := b_pD.other n_pA_pD 0 (.slice (some ⟨gh, 0, none⟩) (HN c.bs c.bs.length).length ch)
          replace b_gh := b_gh.other n_pA_gh 0 (.slice (some ⟨gh, 0, none⟩) (HN c.bs c.bs.length).length ch)
          replace b_pB := b_pB.other n_pA_pB 0 (.slice (some ⟨gh, 0, none⟩) (HN c.bs c.bs.length).length ch)
          replace b_pA := b_pA.set 0 (.slice (some ⟨gh, 0, none⟩) (HN c.bs c.bs.length).length ch)
          have Py66 := Py660
          clear Py660
          generalize y4.setCell ⟨pA, 0, none⟩ (.slice (some ⟨gh, 0, none⟩) (HN c.bs c.bs.length).length ch) = y5 at Py66 b_pA b_pD b_gh b_pB ⊢
          try dsimp only
          refine hK.out _ _ ⟨⟨Py66.X.cell 0 rfl, Py66.X.cell 1 rfl, Py66.X.cell 2 rfl, Py66.X.cell 3 rfl, Py66.X.cell 4 rfl, Py66.X.cell 5 rfl, Py66.X.cell 6 rfl, Py66.X.cell 7 rfl, Py66.X.cell 8 rfl, Py66.X.cell 9 rfl, Py66.X.cell 10 rfl, Py66.X.cell 11 rfl, Py66.X.cell 12 rfl⟩, Py66⟩ ?_; clear hK K hHeld; intro hHeld; try simp only [Act.put, List.setIfInBounds_toArray, List.set_cons_zero, List.set_cons_succ]
          refine Tk.R 10 none (.store 79 (.tmp 4) (.tmp 9)) 0 none (fun K hK => ?_)
          have f0 := b_pB.R.cell 0 rfl
          have q0 := b_pB.R.froz 0 rfl
          have f1 := b_pB.R.cell 1 rfl
          have q1 := b_pB.R.froz 1 rfl
          go_simp
          clear f0 q0 f1 q1
          have Py670 := hHeld.2.out.of_mid (Mid.set y5 pB 0 (.int .i64 1)) b_pB.lo hA (by simp)
          replace b_pA := b_pA.other n_pA_pB.symm 0 (.int .i64 1)
          replace b_pD := b_pD.other n_pD_pB.symm 0 (.int .i64 1)
          replace b_gh := b_gh.other n_gh_pB.symm 0 (.int .i64 1)
          replace b_pB := b_pB.set 0 (.int .i64 1)
          have Py671 := Py670.of_mid (Mid.set (y5.setCell ⟨pB, 0, none⟩ (.int .i64 1)) pB 1 (.int .i64 1000)) b_pB.lo hA (by simp)
          replace b_pA := b_pA.other n_pA_pB.symm 1 (.int .i64 1000)
          replace b_pD := b_pD.other n_pD_pB.symm 1 (.int .i64 1000)
          replace b_gh := b_gh.other n_gh_pB.symm 1 (.int .i64 1000)
          replace b_pB := b_pB.set 1 (.int .i64 1000)
          have Py67 := Py671
          clear Py670 Py671
          generalize (y5.setCell ⟨pB, 0, none⟩ (.int .i64 1)).setCell ⟨pB, 1, none⟩ (.int .i64 1000) = y6 at Py67 b_pA b_pD b_gh b_pB ⊢
          try dsimp only
          refine hK.out _ _ ⟨⟨Py67.X.cell 0 rfl, Py67.X.cell 1 rfl, Py67.X.cell 2 rfl, Py67.X.cell 3 rfl, Py67.X.cell 4 rfl, Py67.X.cell 5 rfl, Py67.X.cell 6 rfl, Py67.X.cell 7 rfl, Py67.X.cell 8 rfl, Py67.X.cell 9 rfl, Py67.X.cell 10 rfl, Py67.X.cell 11 rfl, Py67.X.cell 12 rfl⟩, Py67⟩ ?_; clear hK K hHeld; intro hHeld; try simp only [Act.put, List.setIfInBounds_toArray, List.set_cons_zero, List.set_cons_succ]
          refine Tk.R 11 none (.store 79 (.tmp 5) (.tmp 12)) 0 none (fun K hK => ?_)
          have f0 := b_pD.R.cell 0 rfl
          have q0 := b_pD.R.froz 0 rfl
          have f1 := b_pD.R.cell 1 rfl
          have q1 := b_pD.R.froz 1 rfl
          go_simp
          clear f0 q0 f1 q1
          have Py680 := hHeld.2.out.of_mid (Mid.set y6 pD 0 (.int .i64 0)) b_pD.lo hA (by simp)
          replace b_pA := b_pA.other n_pA_pD.symm 0 (.int .i64 0)
          replace b_gh := b_gh.other n_pD_gh 0 (.int .i64 0)
          replace b_pB := b_pB.other n_pD_pB 0 (.int .i64 0)
          replace b_pD := b_pD.set 0 (.int .i64 0)
          have Py681 := Py680.of_mid (Mid.set (y6.setCell ⟨pD, 0, none⟩ (.int .i64 0)) pD 1 (.int .i64 c.now)) b_pD.lo hA (by simp)
          replace b_pA := b_pA.other n_pA_pD.symm 1 (.int .i64 c.now)
          replace b_gh := b_gh.other n_pD_gh 1 (.int .i64 c.now)
          replace b_pB := b_pB.other n_pD_pB 1 (.int .i64 c.now)
          replace b_pD := b_pD.set 1 (.int .i64 c.now)
          have Py68 := Py681
          clear Py680 Py681
          generalize (y6.setCell ⟨pD, 0, none⟩ (.int .i64 0)).setCell ⟨pD, 1, none⟩ (.int .i64 c.now) = y7 at Py68 b_pA b_pD b_gh b_pB ⊢
          try dsimp only
          refine hK.out _ _ ⟨⟨Py68.X.cell 0 rfl, Py68.X.cell 1 rfl, Py68.X.cell 2 rfl, Py68.X.cell 3 rfl, Py68.X.cell 4 rfl, Py68.X.cell 5 rfl, Py68.X.cell 6 rfl, Py68.X.cell 7 rfl, Py68.X.cell 8 rfl, Py68.X.cell 9 rfl, Py68.X.cell 10 rfl, Py68.X.cell 11 rfl, Py68.X.cell 12 rfl⟩, Py68⟩ ?_; clear hK K hHeld; intro hHeld; try simp only [Act.put, List.setIfInBounds_toArray, List.set_cons_zero, List.set_cons_succ]
          refine wpAnyH_done (by kernel_rfl) ?_ _
          refine NoPanic.normal ?_
          have PX := hHeld.2.out
          clear hHeld
          go_wp2_with fail
          go_meet
          case rel => exact ⟨pA, pB, pD, gh, ch, rfl, rfl, rfl, ⟨PX, b_pA, b_pB, b_pD, b_gh⟩⟩
        · go_simp
          have By69 := (Below.refl y2.heap.size y2).alloc (Nat.le_refl _) (.cells #[.int .i64 0, .int .i64 0] 79)
          have lty69 := hHeld.2.out.X.lt (by simp)
          have Py69 := hHeld.2.out.below By69
          obtain ⟨pB, h_pB⟩ : ∃ p, p = y2.heap.size := ⟨_, rfl⟩
          have b_pB := Bk.new (w := w) h_pB lty69 [.int .i64 0, .int .i64 0] 79
          have n_pA_pB : pA ≠ pB := by rw [h_pB]; exact Nat.ne_of_lt b_pA.lt
          replace b_pA := b_pA.below By69
          have n_pD_pB : pD ≠ pB := by rw [h_pB]; exact Nat.ne_of_lt b_pD.lt
          replace b_pD := b_pD.below By69
          rw [← h_pB]
          generalize y2.alloc (.cells #[.int .i64 0, .int .i64 0] 79) = y3 at Py69 b_pA b_pD b_pB ⊢
          clear By69 h_pB lty69
          try dsimp only
          refine hK.out _ _ ⟨⟨Py69.X.cell 0 rfl, Py69.X.cell 1 rfl, Py69.X.cell 2 rfl, Py69.X.cell 3 rfl, Py69.X.cell 4 rfl, Py69.X.cell 5 rfl, Py69.X.cell 6 rfl, Py69.X.cell 7 rfl, Py69.X.cell 8 rfl, Py69.X.cell 9 rfl, Py69.X.cell 10 rfl, Py69.X.cell 11 rfl, Py69.X.cell 12 rfl⟩, Py69⟩ ?_; clear hK K hHeld; intro hHeld; try simp only [Act.put, List.setIfInBounds_toArray, List.set_cons_zero, List.set_cons_succ]
          refine Tk.R 1 (some 8) (.call ⟨.value (.func 49), #[.tmp 7], #[35]⟩) 26 none (fun K hK => ?_)
          go_simp
          refine (i_bareHonest c _ _ _ _ _ _ _ _ _ _ _ _ _ hHeld.2.out.A hb1 HPB.out).mono ?_
          rintro e y4 ⟨⟨gh, ch, rfl, oh⟩, by70⟩
          have Py70 := hHeld.2.out.below by70
          have b_gh : Bk w y4 gh (ints (HN c.bs c.bs.length)) := Bk.own oh (hHeld.2.out.X.lt (by simp))
          have hge : y3.heap.size ≤ gh := oh.data.2.1
          clear oh
          have n_pA_gh : pA ≠ gh := Nat.ne_of_lt (Nat.lt_of_lt_of_le b_pA.lt hge)
          replace b_pA := b_pA.below by70
          have n_pD_gh : pD ≠ gh := Nat.ne_of_lt (Nat.lt_of_lt_of_le b_pD.lt hge)
          replace b_pD := b_pD.below by70
          have n_pB_gh : pB ≠ gh := Nat.ne_of_lt (Nat.lt_of_lt_of_le b_pB.lt hge)
          replace b_pB := b_pB.below by70
          clear by70 hge
          try dsimp only
          refine hK.out _ _ ⟨⟨Py70.X.cell 0 rfl, Py70.X.cell 1 rfl, Py70.X.cell 2 rfl, Py70.X.cell 3 rfl, Py70.X.cell 4 rfl, Py70.X.cell 5 rfl, Py70.X.cell 6 rfl, Py70.X.cell 7 rfl, Py70.X.cell 8 rfl, Py70.X.cell 9 rfl, Py70.X.cell 10 rfl, Py70.X.cell 11 rfl, Py70.X.cell 12 rfl⟩, Py70⟩ ?_; clear hK K hHeld; intro hHeld; try simp only [Act.put, List.setIfInBounds_toArray, List.set_cons_zero, List.set_cons_succ]
          refine Tk.R 9 none (.store 26 (.tmp 3) (.tmp 8)) 0 none (fun K hK => ?_)
          have f0 := b_pA.R.cell 0 rfl
          have q0 := b_pA.R.froz 0 rfl
          go_simp
          clear f0 q0
          have Py710 := hHeld.2.out.of_mid (Mid.set y4 pA 0 (.slice (some ⟨gh, 0, none⟩) (HN c.bs c.bs.length).length ch)) b_pA.lo hA (by simp)
          replace b_pD := b_pD.other n_pA_pD 0 (.slice (some ⟨gh, 0, none⟩) (HN c.bs c.bs.length).length ch)
          replace b_pB := b_pB.other n_pA_pB 0 (.slice (some ⟨gh, 0, none⟩) (HN c.bs c.bs.length).length ch)
          replace b_gh := b_gh.other n_pA_gh 0 (.slice (some ⟨gh, 0, none⟩) (HN c.bs c.bs.length).length ch)
          replace b_pA := b_pA.set 0 (.slice (some ⟨gh, 0, none⟩) (HN c.bs c.bs.length).length ch)
          have Py71 := Py710
          clear Py710
          generalize y4.setCell ⟨pA, 0, none⟩ (.slice (some ⟨gh, 0, none⟩) (HN c.bs c.bs.length).length ch) = y5 at Py71 b_pA b_pD b_pB b_gh ⊢
          try dsimp only
          refine hK.out _ _ ⟨⟨Py71.X.cell 0 rfl, Py71.X.cell 1 rfl, Py71.X.cell 2 rfl, Py71.X.cell 3 rfl, Py71.X.cell 4 rfl, Py71.X.cell 5 rfl, Py71.X.cell 6 rfl, Py71.X.cell 7 rfl, Py71.X.cell 8 rfl, Py71.X.cell 9 rfl, Py71.X.cell 10 rfl, Py71.X.cell 11 rfl, Py71.X.cell 12 rfl⟩, Py71⟩ ?_; clear hK K hHeld; intro hHeld; try simp only [Act.put, List.setIfInBounds_toArray, List.set_cons_zero, List.set_cons_succ]
          refine Tk.R 10 none (.store 79 (.tmp 4) (.tmp 9)) 0 none (fun K hK => ?_)
          have f0 := b_pB.R.cell 0 rfl
          have q0 := b_pB.R.froz 0 rfl
          have f1 := b_pB.R.cell 1 rfl
          have q1 := b_pB.R.froz 1 rfl
          go_simp
          clear f0 q0 f1 q1
          have Py720 := hHeld.2.out.of_mid (Mid.set y5 pB 0 (.int .i64 1)) b_pB.lo hA (by simp)
          replace b_pA := b_pA.other n_pA_pB.symm 0 (.int .i64 1)
          replace b_pD := b_pD.other n_pD_pB.symm 0 (.int .i64 1)
          replace b_gh := b_gh.other n_pB_gh 0 (.int .i64 1)
          replace b_pB := b_pB.set 0 (.int .i64 1)
          have Py721 := Py720.of_mid (Mid.set (y5.setCell ⟨pB, 0, none⟩ (.int .i64 1)) pB 1 (.int .i64 1000)) b_pB.lo hA (by simp)
          replace b_pA := b_pA.other n_pA_pB.symm 1 (.int .i64 1000)
          replace b_pD := b_pD.other n_pD_pB.symm 1 (.int .i64 1000)
          replace b_gh := b_gh.other n_pB_gh 1 (.int .i64 1000)
          replace b_pB := b_pB.set 1 (.int .i64 1000)
          have Py72 := Py721
          clear Py720 Py721
          generalize (y5.setCell ⟨pB, 0, none⟩ (.int .i64 1)).setCell ⟨pB, 1, none⟩ (.int .i64 1000) = y6 at Py72 b_pA b_pD b_pB b_gh ⊢
          try dsimp only
          refine hK.out _ _ ⟨⟨Py72.X.cell 0 rfl, Py72.X.cell 1 rfl, Py72.X.cell 2 rfl, Py72.X.cell 3 rfl, Py72.X.cell 4 rfl, Py72.X.cell 5 rfl, Py72.X.cell 6 rfl, Py72.X.cell 7 rfl, Py72.X.cell 8 rfl, Py72.X.cell 9 rfl, Py72.X.cell 10 rfl, Py72.X.cell 11 rfl, Py72.X.cell 12 rfl⟩, Py72⟩ ?_; clear hK K hHeld; intro hHeld; try simp only [Act.put, List.setIfInBounds_toArray, List.set_cons_zero, List.set_cons_succ]
          refine Tk.R 11 none (.store 79 (.tmp 5) (.tmp 12)) 0 none (fun K hK => ?_)
          have f0 := b_pD.R.cell 0 rfl
          have q0 := b_pD.R.froz 0 rfl
          have f1 := b_pD.R.cell 1 rfl
          have q1 := b_pD.R.froz 1 rfl
          go_simp
          clear f0 q0 f1 q1
          have Py730 := hHeld.2.out.of_mid (Mid.set y6 pD 0 (.int .i64 0)) b_pD.lo hA (by simp)
          replace b_pA := b_pA.other n_pA_pD.symm 0 (.int .i64 0)
          replace b_pB := b_pB.other n_pD_pB 0 (.int .i64 0)
          replace b_gh := b_gh.other n_pD_gh 0 (.int .i64 0)
          replace b_pD := b_pD.set 0 (.int .i64 0)
          have Py731 := Py730.of_mid (Mid.set (y6.setCell ⟨pD, 0, none⟩ (.int .i64 0)) pD 1 (.int .i64 c.now)) b_pD.lo hA (by simp)
          replace b_pA := b_pA.other n_pA_pD.symm 1 (.int .i64 c.now)
          replace b_pB := b_pB.other n_pD_pB 1 (.int .i64 c.now)
          replace b_gh := b_gh.other n_pD_gh 1 (.int .i64 c.now)
          replace b_pD := b_pD.set 1 (.int .i64 c.now)
          have Py73 := Py731
          clear Py730 Py731
          generalize (y6.setCell ⟨pD, 0, none⟩ (.int .i64 0)).setCell ⟨pD, 1, none⟩ (.int .i64 c.now) = y7 at Py73 b_pA b_pD b_pB b_gh ⊢
          try dsimp only
          refine hK.out _ _ ⟨⟨Py73.X.cell 0 rfl, Py73.X.cell 1 rfl, Py73.X.cell 2 rfl, Py73.X.cell 3 rfl, Py73.X.cell 4 rfl, Py73.X.cell 5 rfl, Py73.X.cell 6 rfl, Py73.X.cell 7 rfl, Py73.X.cell 8 rfl, Py73.X.cell 9 rfl, Py73.X.cell 10 rfl, Py73.X.cell 11 rfl, Py73.X.cell 12 rfl⟩, Py73⟩ ?_; clear hK K hHeld; intro hHeld; try simp only [Act.put, List.setIfInBounds_toArray, List.set_cons_zero, List.set_cons_succ]
          refine wpAnyH_done (by kernel_rfl) ?_ _
          refine NoPanic.normal ?_
          have PX := hHeld.2.out
          clear hHeld
          go_wp2_with fail
          go_meet
          case rel => exact ⟨pA, pB, pD, gh, ch, rfl, rfl, rfl, ⟨PX, b_pA, b_pB, b_pD, b_gh⟩⟩
    · go_simp
      have By74 := (Below.refl y0.heap.size y0).alloc (Nat.le_refl _) (.cells #[.int .i64 0, .int .i64 0] 79)
      have lty74 := hHeld.2.out.X.lt (by simp)
      have Py74 := hHeld.2.out.below By74
      obtain ⟨pB, h_pB⟩ : ∃ p, p = y0.heap.size := ⟨_, rfl⟩
      have b_pB := Bk.new (w := w) h_pB lty74 [.int .i64 0, .int .i64 0] 79
      rw [← h_pB]
      generalize y0.alloc (.cells #[.int .i64 0, .int .i64 0] 79) = y1 at Py74 b_pB ⊢
      clear By74 h_pB lty74
      try dsimp only
      refine hK.out _ _ ⟨⟨Py74.X.cell 0 rfl, Py74.X.cell 1 rfl, Py74.X.cell 2 rfl, Py74.X.cell 3 rfl, Py74.X.cell 4 rfl, Py74.X.cell 5 rfl, Py74.X.cell 6 rfl, Py74.X.cell 7 rfl, Py74.X.cell 8 rfl, Py74.X.cell 9 rfl, Py74.X.cell 10 rfl, Py74.X.cell 11 rfl, Py74.X.cell 12 rfl⟩, Py74⟩ ?_; clear hK K hHeld; intro hHeld; try simp only [Act.put, List.setIfInBounds_toArray, List.set_cons_zero, List.set_cons_succ]
      refine wpAnyH_ready (rs := [1, 6, 8]) (by kernel_rfl) (by simp) ?_
      refine (AllReadyH.cons (o := ⟨some 8, .call ⟨.value (.func 49), #[.tmp 7], #[35]⟩, 26, _, _, none⟩) rfl (fun K hK => ?_) (AllReadyH.cons (o := ⟨some 3, .alloc 26, 0, _, _, none⟩) rfl (fun K hK => ?_) (AllReadyH.cons (o := ⟨some 5, .alloc 79, 0, _, _, none⟩) rfl (fun K hK => ?_) AllReadyH.nil)))
      · go_simp
        refine (i_bareHonest c _ _ _ _ _ _ _ _ _ _ _ _ _ hHeld.2.out.A hb1 HPB.out).mono ?_
        rintro e y2 ⟨⟨gh, ch, rfl, oh⟩, by75⟩
        have Py75 := hHeld.2.out.below by75
        have b_gh : Bk w y2 gh (ints (HN c.bs c.bs.length)) := Bk.own oh (hHeld.2.out.X.lt (by simp))
        have hge : y1.heap.size ≤ gh := oh.data.2.1
        clear oh
        have n_pB_gh : pB ≠ gh := Nat.ne_of_lt (Nat.lt_of_lt_of_le b_pB.lt hge)
        replace b_pB := b_pB.below by75
        clear by75 hge
        try dsimp only
        refine hK.out _ _ ⟨⟨Py75.X.cell 0 rfl, Py75.X.cell 1 rfl, Py75.X.cell 2 rfl, Py75.X.cell 3 rfl, Py75.X.cell 4 rfl, Py75.X.cell 5 rfl, Py75.X.cell 6 rfl, Py75.X.cell 7 rfl, Py75.X.cell 8 rfl, Py75.X.cell 9 rfl, Py75.X.cell 10 rfl, Py75.X.cell 11 rfl, Py75.X.cell 12 rfl⟩, Py75⟩ ?_; clear hK K hHeld; intro hHeld; try simp only [Act.put, List.setIfInBounds_toArray, List.set_cons_zero, List.set_cons_succ]
        refine wpAnyH_ready (rs := [6, 8]) (by kernel_rfl) (by simp) ?_
        refine (AllReadyH.cons (o := ⟨some 3, .alloc 26, 0, _, _, none⟩) rfl (fun K hK => ?_) (AllReadyH.cons (o := ⟨some 5, .alloc 79, 0, _, _, none⟩) rfl (fun K hK => ?_) AllReadyH.nil))
        · go_simp
          have By76 := (Below.refl y2.heap.size y2).alloc (Nat.le_refl _) (.cells #[.slice none 0 0] 26)
          have lty76 := hHeld.2.out.X.lt (by simp)
          have Py76 := hHeld.2.out.below By76
          obtain ⟨pA, h_pA⟩ : ∃ p, p = y2.heap.size := ⟨_, rfl⟩
          have b_pA := Bk.new (w := w) h_pA lty76 [.slice none 0 0] 26
          have n_pB_pA : pB ≠ pA := by rw [h_pA]; exact Nat.ne_of_lt b_pB.lt
          replace b_pB := b_pB.below By76
          have n_gh_pA : gh ≠ pA := by rw [h_pA]; exact Nat.ne_of_lt b_gh.lt
          replace b_gh := b_gh.below By76
          rw [← h_pA]
          generalize y2.alloc (.cells #[.slice none 0 0] 26) = y3 at Py76 b_pB b_gh b_pA ⊢
          clear By76 h_pA lty76
          try dsimp only
          refine hK.out _ _ ⟨⟨Py76.X.cell 0 rfl, Py76.X.cell 1 rfl, Py76.X.cell 2 rfl, Py76.X.cell 3 rfl, Py76.X.cell 4 rfl, Py76.X.cell 5 rfl, Py76.X.cell 6 rfl, Py76.X.cell 7 rfl, Py76.X.cell 8 rfl, Py76.X.cell 9 rfl, Py76.X.cell 10 rfl, Py76.X.cell 11 rfl, Py76.X.cell 12 rfl⟩, Py76⟩ ?_; clear hK K hHeld; intro hHeld; try simp only [Act.put, List.setIfInBounds_toArray, List.set_cons_zero, List.set_cons_succ]
          refine Tk.R 8 (some 5) (.alloc 79) 0 none (fun K hK => ?_)
          go_simp
          have By77 := (Below.refl y3.heap.size y3).alloc (Nat.le_refl _) (.cells #[.int .i64 0, .int .i64 0] 79)
          have lty77 := hHeld.2.out.X.lt (by simp)
          have Py77 := hHeld.2.out.below By77
          obtain ⟨pD, h_pD⟩ : ∃ p, p = y3.heap.size := ⟨_, rfl⟩
          have b_pD := Bk.new (w := w) h_pD lty77 [.int .i64 0, .int .i64 0] 79
          have n_pB_pD : pB ≠ pD := by rw [h_pD]; exact Nat.ne_of_lt b_pB.lt
          replace b_pB := b_pB.below By77
          have n_gh_pD : gh ≠ pD := by rw [h_pD]; exact Nat.ne_of_lt b_gh.lt
          replace b_gh := b_gh.below By77
          have n_pA_pD : pA ≠ pD := by rw [h_pD]; exact Nat.ne_of_lt b_pA.lt
          replace b_pA := b_pA.below By77
          rw [← h_pD]
          generalize y3.alloc (.cells #[.int .i64 0, .int .i64 0] 79) = y4 at Py77 b_pB b_gh b_pA b_pD ⊢
          clear By77 h_pD lty77
          try dsimp only
          refine hK.out _ _ ⟨⟨Py77.X.cell 0 rfl, Py77.X.cell 1 rfl, Py77.X.cell 2 rfl, Py77.X.cell 3 rfl, Py77.X.cell 4 rfl, Py77.X.cell 5 rfl, Py77.X.cell 6 rfl, Py77.X.cell 7 rfl, Py77.X.cell 8 rfl, Py77.X.cell 9 rfl, Py77.X.cell 10 rfl, Py77.X.cell 11 rfl, Py77.X.cell 12 rfl⟩, Py77⟩ ?_; clear hK K hHeld; intro hHeld; try simp only [Act.put, List.setIfInBounds_toArray, List.set_cons_zero, List.set_cons_succ]
          refine Tk.R 9 none (.store 26 (.tmp 3) (.tmp 8)) 0 none (fun K hK => ?_)
          have f0 := b_pA.R.cell 0 rfl
          have q0 := b_pA.R.froz 0 rfl
          go_simp
          clear f0 q0
          have Py780 := hHeld.2.out.of_mid (Mid.set y4 pA 0 (.slice (some ⟨gh, 0, none⟩) (HN c.bs c.bs.length).length ch)) b_pA.lo hA (by simp)
          replace b_pB := b_pB.other n_pB_pA.symm 0 (.slice (some ⟨gh, 0, none⟩) (HN c.bs c.bs.length).length ch)
          replace b_gh := b_gh.other n_gh_pA.symm 0 (.slice (some ⟨gh, 0, none⟩) (HN c.bs c.bs.length).length ch)
          replace b_pD := b_pD.other n_pA_pD 0 (.slice (some ⟨gh, 0, none⟩) (HN c.bs c.bs.length).length ch)
          replace b_pA := b_pA.set 0 (.slice (some ⟨gh, 0, none⟩) (HN c.bs c.bs.length).length ch)
          have Py78 := Py780
          clear Py780
          generalize y4.setCell ⟨pA, 0, none⟩ (.slice (some ⟨gh, 0, none⟩) (HN c.bs c.bs.length).length ch) = y5 at Py78 b_pB b_gh b_pA b_pD ⊢
          try dsimp only
          refine hK.out _ _ ⟨⟨Py78.X.cell 0 rfl, Py78.X.cell 1 rfl, Py78.X.cell 2 rfl, Py78.X.cell 3 rfl, Py78.X.cell 4 rfl, Py78.X.cell 5 rfl, Py78.X.cell 6 rfl, Py78.X.cell 7 rfl, Py78.X.cell 8 rfl, Py78.X.cell 9 rfl, Py78.X.cell 10 rfl, Py78.X.cell 11 rfl, Py78.X.cell 12 rfl⟩, Py78⟩ ?_; clear hK K hHeld; intro hHeld; try simp only [Act.put, List.setIfInBounds_toArray, List.set_cons_zero, List.set_cons_succ]
          refine Tk.R 10 none (.store 79 (.tmp 4) (.tmp 9)) 0 none (fun K hK => ?_)
          have f0 := b_pB.R.cell 0 rfl
          have q0 := b_pB.R.froz 0 rfl
          have f1 := b_pB.R.cell 1 rfl
          have q1 := b_pB.R.froz 1 rfl
          go_simp
          clear f0 q0 f1 q1
          have Py790 := hHeld.2.out.of_mid (Mid.set y5 pB 0 (.int .i64 1)) b_pB.lo hA (by simp)
          replace b_gh := b_gh.other n_pB_gh 0 (.int .i64 1)
          replace b_pA := b_pA.other n_pB_pA 0 (.int .i64 1)
          replace b_pD := b_pD.other n_pB_pD 0 (.int .i64 1)
          replace b_pB := b_pB.set 0 (.int .i64 1)
          have Py791 := Py790.of_mid (Mid.set (y5.setCell ⟨pB, 0, none⟩ (.int .i64 1)) pB 1 (.int .i64 1000)) b_pB.lo hA (by simp)
          replace b_gh := b_gh.other n_pB_gh 1 (.int .i64 1000)
          replace b_pA := b_pA.other n_pB_pA 1 (.int .i64 1000)
          replace b_pD := b_pD.other n_pB_pD 1 (.int .i64 1000)
          replace b_pB := b_pB.set 1 (.int .i64 1000)
          have Py79 := Py791
          clear Py790 Py791
          generalize (y5.setCell ⟨pB, 0, none⟩ (.int .i64 1)).setCell ⟨pB, 1, none⟩ (.int .i64 1000) = y6 at Py79 b_pB b_gh b_pA b_pD ⊢
          try dsimp only
          refine hK.out _ _ ⟨⟨Py79.X.cell 0 rfl, Py79.X.cell 1 rfl, Py79.X.cell 2 rfl, Py79.X.cell 3 rfl, Py79.X.cell 4 rfl, Py79.X.cell 5 rfl, Py79.X.cell 6 rfl, Py79.X.cell 7 rfl, Py79.X.cell 8 rfl, Py79.X.cell 9 rfl, Py79.X.cell 10 rfl, Py79.X.cell 11 rfl, Py79.X.cell 12 rfl⟩, Py79⟩ ?_; clear hK K hHeld; intro hHeld; try simp only [Act.put, List.setIfInBounds_toArray, List.set_cons_zero, List.set_cons_succ]
          refine Tk.R 11 none (.store 79 (.tmp 5) (.tmp 12)) 0 none (fun K hK => ?_)
          have f0 := b_pD.R.cell 0 rfl
          have q0 := b_pD.R.froz 0 rfl
          have f1 := b_pD.R.cell 1 rfl
          have q1 := b_pD.R.froz 1 rfl
          go_simp
          clear f0 q0 f1 q1
          have Py800 := hHeld.2.out.of_mid (Mid.set y6 pD 0 (.int .i64 0)) b_pD.lo hA (by simp)
          replace b_pB := b_pB.other n_pB_pD.symm 0 (.int .i64 0)
          replace b_gh := b_gh.other n_gh_pD.symm 0 (.int .i64 0)
          replace b_pA := b_pA.other n_pA_pD.symm 0 (.int .i64 0)
          replace b_pD := b_pD.set 0 (.int .i64 0)
          have Py801 := Py800.of_mid (Mid.set (y6.setCell ⟨pD, 0, none⟩ (.int .i64 0)) pD 1 (.int .i64 c.now)) b_pD.lo hA (by simp)
          replace b_pB := b_pB.other n_pB_pD.symm 1 (.int .i64 c.now)
          replace b_gh := b_gh.other n_gh_pD.symm 1 (.int .i64 c.now)
          replace b_pA := b_pA.other n_pA_pD.symm 1 (.int .i64 c.now)
          replace b_pD := b_pD.set 1 (.int .i64 c.now)
          have Py80 := Py801
          clear Py800 Py801
          generalize (y6.setCell ⟨pD, 0, none⟩ (.int .i64 0)).setCell ⟨pD, 1, none⟩ (.int .i64 c.now) = y7 at Py80 b_pB b_gh b_pA b_pD ⊢
          try dsimp only
          refine hK.out _ _ ⟨⟨Py80.X.cell 0 rfl, Py80.X.cell 1 rfl, Py80.X.cell 2 rfl, Py80.X.cell 3 rfl, Py80.X.cell 4 rfl, Py80.X.cell 5 rfl, Py80.X.cell 6 rfl, Py80.X.cell 7 rfl, Py80.X.cell 8 rfl, Py80.X.cell 9 rfl, Py80.X.cell 10 rfl, Py80.X.cell 11 rfl, Py80.X.cell 12 rfl⟩, Py80⟩ ?_; clear hK K hHeld; intro hHeld; try simp only [Act.put, List.setIfInBounds_toArray, List.set_cons_zero, List.set_cons_succ]
          refine wpAnyH_done (by kernel_rfl) ?_ _
          refine NoPanic.normal ?_
          have PX := hHeld.2.out
          clear hHeld
          go_wp2_with fail
          go_meet
          case rel => exact ⟨pA, pB, pD, gh, ch, rfl, rfl, rfl, ⟨PX, b_pA, b_pB, b_pD, b_gh⟩⟩
        · go_simp
          have By81 := (Below.refl y2.heap.size y2).alloc (Nat.le_refl _) (.cells #[.int .i64 0, .int .i64 0] 79)
          have lty81 := hHeld.2.out.X.lt (by simp)
          have Py81 := hHeld.2.out.below By81
          obtain ⟨pD, h_pD⟩ : ∃ p, p = y2.heap.size := ⟨_, rfl⟩
          have b_pD := Bk.new (w := w) h_pD lty81 [.int .i64 0, .int .i64 0] 79
          have n_pB_pD : pB ≠ pD := by rw [h_pD]; exact Nat.ne_of_lt b_pB.lt
          replace b_pB := b_pB.below By81
          have n_gh_pD : gh ≠ pD := by rw [h_pD]; exact Nat.ne_of_lt b_gh.lt
          replace b_gh := b_gh.below By81
          rw [← h_pD]
          generalize y2.alloc (.cells #[.int .i64 0, .int .i64 0] 79) = y3 at Py81 b_pB b_gh b_pD ⊢
          clear By81 h_pD lty81
          try dsimp only
          refine hK.out _ _ ⟨⟨Py81.X.cell 0 rfl, Py81.X.cell 1 rfl, Py81.X.cell 2 rfl, Py81.X.cell 3 rfl, Py81.X.cell 4 rfl, Py81.X.cell 5 rfl, Py81.X.cell 6 rfl, Py81.X.cell 7 rfl, Py81.X.cell 8 rfl, Py81.X.cell 9 rfl, Py81.X.cell 10 rfl, Py81.X.cell 11 rfl, Py81.X.cell 12 rfl⟩, Py81⟩ ?_; clear hK K hHeld; intro hHeld; try simp only [Act.put, List.setIfInBounds_toArray, List.set_cons_zero, List.set_cons_succ]
          refine Tk.R 6 (some 3) (.alloc 26) 0 none (fun K hK => ?_)
          go_simp
          have By82 := (Below.refl y3.heap.size y3).alloc (Nat.le_refl _) (.cells #[.slice none 0 0] 26)
          have lty82 := hHeld.2.out.X.lt (by simp)
          have Py82 := hHeld.2.out.below By82
          obtain ⟨pA, h_pA⟩ : ∃ p, p = y3.heap.size := ⟨_, rfl⟩
          have b_pA := Bk.new (w := w) h_pA lty82 [.slice none 0 0] 26
          have n_pB_pA : pB ≠ pA := by rw [h_pA]; exact Nat.ne_of_lt b_pB.lt
          replace b_pB := b_pB.below By82
          have n_gh_pA : gh ≠ pA := by rw [h_pA]; exact Nat.ne_of_lt b_gh.lt
          replace b_gh := b_gh.below By82
          have n_pD_pA : pD ≠ pA := by rw [h_pA]; exact Nat.ne_of_lt b_pD.lt
          replace b_pD := b_pD.below By82
          rw [← h_pA]
          generalize y3.alloc (.cells #[.slice none 0 0] 26) = y4 at Py82 b_pB b_gh b_pD b_pA ⊢
          clear By82 h_pA lty82
          try dsimp only
          refine hK.out _ _ ⟨⟨Py82.X.cell 0 rfl, Py82.X.cell 1 rfl, Py82.X.cell 2 rfl, Py82.X.cell 3 rfl, Py82.X.cell 4 rfl, Py82.X.cell 5 rfl, Py82.X.cell 6 rfl, Py82.X.cell 7 rfl, Py82.X.cell 8 rfl, Py82.X.cell 9 rfl, Py82.X.cell 10 rfl, Py82.X.cell 11 rfl, Py82.X.cell 12 rfl⟩, Py82⟩ ?_; clear hK K hHeld; intro hHeld; try simp only [Act.put, List.setIfInBounds_toArray, List.set_cons_zero, List.set_cons_succ]
          refine Tk.R 9 none (.store 26 (.tmp 3) (.tmp 8)) 0 none (fun K hK => ?_)
          have f0 := b_pA.R.cell 0 rfl
          have q0 := b_pA.R.froz 0 rfl
          go_simp
          clear f0 q0
          have Py830 := hHeld.2.out.of_mid (Mid.set y4 pA 0 (.slice (some ⟨gh, 0, none⟩) (HN c.bs c.bs.length).length ch)) b_pA.lo hA (by simp)
          replace b_pB := b_pB.other n_pB_pA.symm 0 (.slice (some ⟨gh, 0, none⟩) (HN c.bs c.bs.length).length ch)
          replace b_gh := b_gh.other n_gh_pA.symm 0 (.slice (some ⟨gh, 0, none⟩) (HN c.bs c.bs.length).length ch)
          replace b_pD := b_pD.other n_pD_pA.symm 0 (.slice (some ⟨gh, 0, none⟩) (HN c.bs c.bs.length).length ch)
          replace b_pA := b_pA.set 0 (.slice (some ⟨gh, 0, none⟩) (HN c.bs c.bs.length).length ch)
          have Py83 := Py830
          clear Py830
          generalize y4.setCell ⟨pA, 0, none⟩ (.slice (some ⟨gh, 0, none⟩) (HN c.bs c.bs.length).length ch) = y5 at Py83 b_pB b_gh b_pD b_pA ⊢
          try dsimp only
          refine hK.out _ _ ⟨⟨Py83.X.cell 0 rfl, Py83.X.cell 1 rfl, Py83.X.cell 2 rfl, Py83.X.cell 3 rfl, Py83.X.cell 4 rfl, Py83.X.cell 5 rfl, Py83.X.cell 6 rfl, Py83.X.cell 7 rfl, Py83.X.cell 8 rfl, Py83.X.cell 9 rfl, Py83.X.cell 10 rfl, Py83.X.cell 11 rfl, Py83.X.cell 12 rfl⟩, Py83⟩ ?_; clear hK K hHeld; intro hHeld; try simp only [Act.put, List.setIfInBounds_toArray, List.set_cons_zero, List.set_cons_succ]
          refine Tk.R 10 none (.store 79 (.tmp 4) (.tmp 9)) 0 none (fun K hK => ?_)
          have f0 := b_pB.R.cell 0 rfl
          have q0 := b_pB.R.froz 0 rfl
          have f1 := b_pB.R.cell 1 rfl
          have q1 := b_pB.R.froz 1 rfl
          go_simp
          clear f0 q0 f1 q1
          have Py840 := hHeld.2.out.of_mid (Mid.set y5 pB 0 (.int .i64 1)) b_pB.lo hA (by simp)
          replace b_gh := b_gh.other n_pB_gh 0 (.int .i64 1)
          replace b_pD := b_pD.other n_pB_pD 0 (.int .i64 1)
          replace b_pA := b_pA.other n_pB_pA 0 (.int .i64 1)
          replace b_pB := b_pB.set 0 (.int .i64 1)
          have Py841 := Py840.of_mid (Mid.set (y5.setCell ⟨pB, 0, none⟩ (.int .i64 1)) pB 1 (.int .i64 1000)) b_pB.lo hA (by simp)
          replace b_gh := b_gh.other n_pB_gh 1 (.int .i64 1000)
          replace b_pD := b_pD.other n_pB_pD 1 (.int .i64 1000)
          replace b_pA := b_pA.other n_pB_pA 1 (.int .i64 1000)
          replace b_pB := b_pB.set 1 (.int .i64 1000)
          have Py84 := Py841
          clear Py840 Py841
          generalize (y5.setCell ⟨pB, 0, none⟩ (.int .i64 1)).setCell ⟨pB, 1, none⟩ (.int .i64 1000) = y6 at Py84 b_pB b_gh b_pD b_pA ⊢
          try dsimp only
          refine hK.out _ _ ⟨⟨Py84.X.cell 0 rfl, Py84.X.cell 1 rfl, Py84.X.cell 2 rfl, Py84.X.cell 3 rfl, Py84.X.cell 4 rfl, Py84.X.cell 5 rfl, Py84.X.cell 6 rfl, Py84.X.cell 7 rfl, Py84.X.cell 8 rfl, Py84.X.cell 9 rfl, Py84.X.cell 10 rfl, Py84.X.cell 11 rfl, Py84.X.cell 12 rfl⟩, Py84⟩ ?_; clear hK K hHeld; intro hHeld; try simp only [Act.put, List.setIfInBounds_toArray, List.set_cons_zero, List.set_cons_succ]
          refine Tk.R 11 none (.store 79 (.tmp 5) (.tmp 12)) 0 none (fun K hK => ?_)
          have f0 := b_pD.R.cell 0 rfl
          have q0 := b_pD.R.froz 0 rfl
          have f1 := b_pD.R.cell 1 rfl
          have q1 := b_pD.R.froz 1 rfl
          go_simp
          clear f0 q0 f1 q1
          have Py850 := hHeld.2.out.of_mid (Mid.set y6 pD 0 (.int .i64 0)) b_pD.lo hA (by simp)
          replace b_pB := b_pB.other n_pB_pD.symm 0 (.int .i64 0)
          replace b_gh := b_gh.other n_gh_pD.symm 0 (.int .i64 0)
          replace b_pA := b_pA.other n_pD_pA 0 (.int .i64 0)
          replace b_pD := b_pD.set 0 (.int .i64 0)
          have Py851 := Py850.of_mid (Mid.set (y6.setCell ⟨pD, 0, none⟩ (.int .i64 0)) pD 1 (.int .i64 c.now)) b_pD.lo hA (by simp)
          replace b_pB := b_pB.other n_pB_pD.symm 1 (.int .i64 c.now)
          replace b_gh := b_gh.other n_gh_pD.symm 1 (.int .i64 c.now)
          replace b_pA := b_pA.other n_pD_pA 1 (.int .i64 c.now)
          replace b_pD := b_pD.set 1 (.int .i64 c.now)
          have Py85 := Py851
          clear Py850 Py851
          generalize (y6.setCell ⟨pD, 0, none⟩ (.int .i64 0)).setCell ⟨pD, 1, none⟩ (.int .i64 c.now) = y7 at Py85 b_pB b_gh b_pD b_pA ⊢
          try dsimp only
          refine hK.out _ _ ⟨⟨Py85.X.cell 0 rfl, Py85.X.cell 1 rfl, Py85.X.cell 2 rfl, Py85.X.cell 3 rfl, Py85.X.cell 4 rfl, Py85.X.cell 5 rfl, Py85.X.cell 6 rfl, Py85.X.cell 7 rfl, Py85.X.cell 8 rfl, Py85.X.cell 9 rfl, Py85.X.cell 10 rfl, Py85.X.cell 11 rfl, Py85.X.cell 12 rfl⟩, Py85⟩ ?_; clear hK K hHeld; intro hHeld; try simp only [Act.put, List.setIfInBounds_toArray, List.set_cons_zero, List.set_cons_succ]
          refine wpAnyH_done (by kernel_rfl) ?_ _
          refine NoPanic.normal ?_
          have PX := hHeld.2.out
          clear hHeld
          go_wp2_with fail
          go_meet
          case rel => exact ⟨pA, pB, pD, gh, ch, rfl, rfl, rfl, ⟨PX, b_pA, b_pB, b_pD, b_gh⟩⟩
      · go_simp
        have By86 := (Below.refl y1.heap.size y1).alloc (Nat.le_refl _) (.cells #[.slice none 0 0] 26)
        have lty86 := hHeld.2.out.X.lt (by simp)
        have Py86 := hHeld.2.out.below By86
        obtain ⟨pA, h_pA⟩ : ∃ p, p = y1.heap.size := ⟨_, rfl⟩
        have b_pA := Bk.new (w := w) h_pA lty86 [.slice none 0 0] 26
        have n_pB_pA : pB ≠ pA := by rw [h_pA]; exact Nat.ne_of_lt b_pB.lt
        replace b_pB := b_pB.below By86
        rw [← h_pA]
        generalize y1.alloc (.cells #[.slice none 0 0] 26) = y2 at Py86 b_pB b_pA ⊢
        clear By86 h_pA lty86
        try dsimp only
        refine hK.out _ _ ⟨⟨Py86.X.cell 0 rfl, Py86.X.cell 1 rfl, Py86.X.cell 2 rfl, Py86.X.cell 3 rfl, Py86.X.cell 4 rfl, Py86.X.cell 5 rfl, Py86.X.cell 6 rfl, Py86.X.cell 7 rfl, Py86.X.cell 8 rfl, Py86.X.cell 9 rfl, Py86.X.cell 10 rfl, Py86.X.cell 11 rfl, Py86.X.cell 12 rfl⟩, Py86⟩ ?_; clear hK K hHeld; intro hHeld; try simp only [Act.put, List.setIfInBounds_toArray, List.set_cons_zero, List.set_cons_succ]
        refine wpAnyH_ready (rs := [1, 8]) (by kernel_rfl) (by simp) ?_
        refine (AllReadyH.cons (o := ⟨some 8, .call ⟨.value (.func 49), #[.tmp 7], #[35]⟩, 26, _, _, none⟩) rfl (fun K hK => ?_) (AllReadyH.cons (o := ⟨some 5, .alloc 79, 0, _, _, none⟩) rfl (fun K hK => ?_) AllReadyH.nil))
        · go_simp
          refine (i_bareHonest c _ _ _ _ _ _ _ _ _ _ _ _ _ hHeld.2.out.A hb1 HPB.out).mono ?_
          rintro e y3 ⟨⟨gh, ch, rfl, oh⟩, by87⟩
          have Py87 := hHeld.2.out.below by87
          have b_gh : Bk w y3 gh (ints (HN c.bs c.bs.length)) := Bk.own oh (hHeld.2.out.X.lt (by simp))
          have hge : y2.heap.size ≤ gh := oh.data.2.1
          clear oh
          have n_pB_gh : pB ≠ gh := Nat.ne_of_lt (Nat.lt_of_lt_of_le b_pB.lt hge)
          replace b_pB := b_pB.below by87
          have n_pA_gh : pA ≠ gh := Nat.ne_of_lt (Nat.lt_of_lt_of_le b_pA.lt hge)
          replace b_pA := b_pA.below by87
          clear by87 hge
          try dsimp only
          refine hK.out _ _ ⟨⟨Py87.X.cell 0 rfl, Py87.X.cell 1 rfl, Py87.X.cell 2 rfl, Py87.X.cell 3 rfl, Py87.X.cell 4 rfl, Py87.X.cell 5 rfl, Py87.X.cell 6 rfl, Py87.X.cell 7 rfl, Py87.X.cell 8 rfl, Py87.X.cell 9 rfl, Py87.X.cell 10 rfl, Py87.X.cell 11 rfl, Py87.X.cell 12 rfl⟩, Py87⟩ ?_; clear hK K hHeld; intro hHeld; try simp only [Act.put, List.setIfInBounds_toArray, List.set_cons_zero, List.set_cons_succ]
          refine Tk.R 8 (some 5) (.alloc 79) 0 none (fun K hK => ?_)
          go_simp
          have By88 := (Below.refl y3.heap.size y3).alloc (Nat.le_refl _) (.cells #[.int .i64 0, .int .i64 0] 79)
          have lty88 := hHeld.2.out.X.lt (by simp)
          have Py88 := hHeld.2.out.below By88
          obtain ⟨pD, h_pD⟩ : ∃ p, p = y3.heap.size := ⟨_, rfl⟩
          have b_pD := Bk.new (w := w) h_pD lty88 [.int .i64 0, .int .i64 0] 79
          have n_pB_pD : pB ≠ pD := by rw [h_pD]; exact Nat.ne_of_lt b_pB.lt
          replace b_pB := b_pB.below By88
          have n_pA_pD : pA ≠ pD := by rw [h_pD]; exact Nat.ne_of_lt b_pA.lt
          replace b_pA := b_pA.below By88
          have n_gh_pD : gh ≠ pD := by rw [h_pD]; exact Nat.ne_of_lt b_gh.lt
          replace b_gh := b_gh.below By88
          rw [← h_pD]
          generalize y3.alloc (.cells #[.int .i64 0, .int .i64 0] 79) = y4 at Py88 b_pB b_pA b_gh b_pD ⊢
          clear By88 h_pD lty88
          try dsimp only
          refine hK.out _ _ ⟨⟨Py88.X.cell 0 rfl, Py88.X.cell 1 rfl, Py88.X.cell 2 rfl, Py88.X.cell 3 rfl, Py88.X.cell 4 rfl, Py88.X.cell 5 rfl, Py88.X.cell 6 rfl, Py88.X.cell 7 rfl, Py88.X.cell 8 rfl, Py88.X.cell 9 rfl, Py88.X.cell 10 rfl, Py88.X.cell 11 rfl, Py88.X.cell 12 rfl⟩, Py88⟩ ?_; clear hK K hHeld; intro hHeld; try simp only [Act.put, List.setIfInBounds_toArray, List.set_cons_zero, List.set_cons_succ]
          refine Tk.R 9 none (.store 26 (.tmp 3) (.tmp 8)) 0 none (fun K hK => ?_)
          have f0 := b_pA.R.cell 0 rfl
          have q0 := b_pA.R.froz 0 rfl
          go_simp
          clear f0 q0
          have Py890 := hHeld.2.out.of_mid (Mid.set y4 pA 0 (.slice (some ⟨gh, 0, none⟩) (HN c.bs c.bs.length).length ch)) b_pA.lo hA (by simp)
          replace b_pB := b_pB.other n_pB_pA.symm 0 (.slice (some ⟨gh, 0, none⟩) (HN c.bs c.bs.length).length ch)
          replace b_gh := b_gh.other n_pA_gh 0 (.slice (some ⟨gh, 0, none⟩) (HN c.bs c.bs.length).length ch)
          replace b_pD := b_pD.other n_pA_pD 0 (.slice (some ⟨gh, 0, none⟩) (HN c.bs c.bs.length).length ch)
          replace b_pA := b_pA.set 0 (.slice (some ⟨gh, 0, none⟩) (HN c.bs c.bs.length).length ch)
          have Py89 := Py890
          clear Py890
          generalize y4.setCell ⟨pA, 0, none⟩ (.slice (some ⟨gh, 0, none⟩) (HN c.bs c.bs.length).length ch) = y5 at Py89 b_pB b_pA b_gh b_pD ⊢
          try dsimp only
          refine hK.out _ _ ⟨⟨Py89.X.cell 0 rfl, Py89.X.cell 1 rfl, Py89.X.cell 2 rfl, Py89.X.cell 3 rfl, Py89.X.cell 4 rfl, Py89.X.cell 5 rfl, Py89.X.cell 6 rfl, Py89.X.cell 7 rfl, Py89.X.cell 8 rfl, Py89.X.cell 9 rfl, Py89.X.cell 10 rfl, Py89.X.cell 11 rfl, Py89.X.cell 12 rfl⟩, Py89⟩ ?_; clear hK K hHeld; intro hHeld; try simp only [Act.put, List.setIfInBounds_toArray, List.set_cons_zero, List.set_cons_succ]
          refine Tk.R 10 none (.store 79 (.tmp 4) (.tmp 9)) 0 none (fun K hK => ?_)
          have f0 := b_pB.R.cell 0 rfl
          have q0 := b_pB.R.froz 0 rfl
          have f1 := b_pB.R.cell 1 rfl
          have q1 := b_pB.R.froz 1 rfl
          go_simp
          clear f0 q0 f1 q1
          have Py900 := hHeld.2.out.of_mid (Mid.set y5 pB 0 (.int .i64 1)) b_pB.lo hA (by simp)
          replace b_pA := b_pA.other n_pB_pA 0 (.int .i64 1)
          replace b_gh := b_gh.other n_pB_gh 0 (.int .i64 1)
          replace b_pD := b_pD.other n_pB_pD 0 (.int .i64 1)
          replace b_pB := b_pB.set 0 (.int .i64 1)
          have Py901 := Py900.of_mid (Mid.set (y5.setCell ⟨pB, 0, none⟩ (.int .i64 1)) pB 1 (.int .i64 1000)) b_pB.lo hA (by simp)
          replace b_pA := b_pA.other n_pB_pA 1 (.int .i64 1000)
          replace b_gh := b_gh.other n_pB_gh 1 (.int .i64 1000)
          replace b_pD := b_pD.other n_pB_pD 1 (.int .i64 1000)
          replace b_pB := b_pB.set 1 (.int .i64 1000)
          have Py90 := Py901
          clear Py900 Py901
          generalize (y5.setCell ⟨pB, 0, none⟩ (.int .i64 1)).setCell ⟨pB, 1, none⟩ (.int .i64 1000) = y6 at Py90 b_pB b_pA b_gh b_pD ⊢
          try dsimp only
          refine hK.out _ _ ⟨⟨Py90.X.cell 0 rfl, Py90.X.cell 1 rfl, Py90.X.cell 2 rfl, Py90.X.cell 3 rfl, Py90.X.cell 4 rfl, Py90.X.cell 5 rfl, Py90.X.cell 6 rfl, Py90.X.cell 7 rfl, Py90.X.cell 8 rfl, Py90.X.cell 9 rfl, Py90.X.cell 10 rfl, Py90.X.cell 11 rfl, Py90.X.cell 12 rfl⟩, Py90⟩ ?_; clear hK K hHeld; intro hHeld; try simp only [Act.put, List.setIfInBounds_toArray, List.set_cons_zero, List.set_cons_succ]
          refine Tk.R 11 none (.store 79 (.tmp 5) (.tmp 12)) 0 none (fun K hK => ?_)
          have f0 := b_pD.R.cell 0 rfl
          have q0 := b_pD.R.froz 0 rfl
          have f1 := b_pD.R.cell 1 rfl
          have q1 := b_pD.R.froz 1 rfl
          go_simp
          clear f0 q0 f1 q1
          have Py910 := hHeld.2.out.of_mid (Mid.set y6 pD 0 (.int .i64 0)) b_pD.lo hA (by simp)
          replace b_pB := b_pB.other n_pB_pD.symm 0 (.int .i64 0)
          replace b_pA := b_pA.other n_pA_pD.symm 0 (.int .i64 0)
          replace b_gh := b_gh.other n_gh_pD.symm 0 (.int .i64 0)
          replace b_pD := b_pD.set 0 (.int .i64 0)
          have Py911 := Py910.of_mid (Mid.set (y6.setCell ⟨pD, 0, none⟩ (.int .i64 0)) pD 1 (.int .i64 c.now)) b_pD.lo hA (by simp)
          replace b_pB := b_pB.other n_pB_pD.symm 1 (.int .i64 c.now)
          replace b_pA := b_pA.other n_pA_pD.symm 1 (.int .i64 c.now)
          replace b_gh := b_gh.other n_gh_pD.symm 1 (.int .i64 c.now)
          replace b_pD := b_pD.set 1 (.int .i64 c.now)
          have Py91 := Py911
          clear Py910 Py911
          generalize (y6.setCell ⟨pD, 0, none⟩ (.int .i64 0)).setCell ⟨pD, 1, none⟩ (.int .i64 c.now) = y7 at Py91 b_pB b_pA b_gh b_pD ⊢
          try dsimp only
          refine hK.out _ _ ⟨⟨Py91.X.cell 0 rfl, Py91.X.cell 1 rfl, Py91.X.cell 2 rfl, Py91.X.cell 3 rfl, Py91.X.cell 4 rfl, Py91.X.cell 5 rfl, Py91.X.cell 6 rfl, Py91.X.cell 7 rfl, Py91.X.cell 8 rfl, Py91.X.cell 9 rfl, Py91.X.cell 10 rfl, Py91.X.cell 11 rfl, Py91.X.cell 12 rfl⟩, Py91⟩ ?_; clear hK K hHeld; intro hHeld; try simp only [Act.put, List.setIfInBounds_toArray, List.set_cons_zero, List.set_cons_succ]
          refine wpAnyH_done (by kernel_rfl) ?_ _
          refine NoPanic.normal ?_
          have PX := hHeld.2.out
          clear hHeld
          go_wp2_with fail
          go_meet
          case rel => exact ⟨pA, pB, pD, gh, ch, rfl, rfl, rfl, ⟨PX, b_pA, b_pB, b_pD, b_gh⟩⟩
        · go_simp
          have By92 := (Below.refl y2.heap.size y2).alloc (Nat.le_refl _) (.cells #[.int .i64 0, .int .i64 0] 79)
          have lty92 := hHeld.2.out.X.lt (by simp)
          have Py92 := hHeld.2.out.below By92
          obtain ⟨pD, h_pD⟩ : ∃ p, p = y2.heap.size := ⟨_, rfl⟩
          have b_pD := Bk.new (w := w) h_pD lty92 [.int .i64 0, .int .i64 0] 79
          have n_pB_pD : pB ≠ pD := by rw [h_pD]; exact Nat.ne_of_lt b_pB.lt
          replace b_pB := b_pB.below By92
          have n_pA_pD : pA ≠ pD := by rw [h_pD]; exact Nat.ne_of_lt b_pA.lt
          replace b_pA := b_pA.below By92
          rw [← h_pD]
          generalize y2.alloc (.cells #[.int .i64 0, .int .i64 0] 79) = y3 at Py92 b_pB b_pA b_pD ⊢
          clear By92 h_pD lty92
          try dsimp only
          refine hK.out _ _ ⟨⟨Py92.X.cell 0 rfl, Py92.X.cell 1 rfl, Py92.X.cell 2 rfl, Py92.X.cell 3 rfl, Py92.X.cell 4 rfl, Py92.X.cell 5 rfl, Py92.X.cell 6 rfl, Py92.X.cell 7 rfl, Py92.X.cell 8 rfl, Py92.X.cell 9 rfl, Py92.X.cell 10 rfl, Py92.X.cell 11 rfl, Py92.X.cell 12 rfl⟩, Py92⟩ ?_; clear hK K hHeld; intro hHeld; try simp only [Act.put, List.setIfInBounds_toArray, List.set_cons_zero, List.set_cons_succ]
          refine Tk.R 1 (some 8) (.call ⟨.value (.func 49), #[.tmp 7], #[35]⟩) 26 none (fun K hK => ?_)
          go_simp
          refine (i_bareHonest c _ _ _ _ _ _ _ _ _ _ _ _ _ hHeld.2.out.A hb1 HPB.out).mono ?_
          rintro e y4 ⟨⟨gh, ch, rfl, oh⟩, by93⟩
          have Py93 := hHeld.2.out.below by93
          have b_gh : Bk w y4 gh (ints (HN c.bs c.bs.length)) := Bk.own oh (hHeld.2.out.X.lt (by simp))
          have hge : y3.heap.size ≤ gh := oh.data.2.1
          clear oh
          have n_pB_gh : pB ≠ gh := Nat.ne_of_lt (Nat.lt_of_lt_of_le b_pB.lt hge)
          replace b_pB := b_pB.below by93
          have n_pA_gh : pA ≠ gh := Nat.ne_of_lt (Nat.lt_of_lt_of_le b_pA.lt hge)
          replace b_pA := b_pA.below by93
          have n_pD_gh : pD ≠ gh := Nat.ne_of_lt (Nat.lt_of_lt_of_le b_pD.lt hge)
          replace b_pD := b_pD.below by93
          clear by93 hge
          try dsimp only
          refine hK.out _ _ ⟨⟨Py93.X.cell 0 rfl, Py93.X.cell 1 rfl, Py93.X.cell 2 rfl, Py93.X.cell 3 rfl, Py93.X.cell 4 rfl, Py93.X.cell 5 rfl, Py93.X.cell 6 rfl, Py93.X.cell 7 rfl, Py93.X.cell 8 rfl, Py93.X.cell 9 rfl, Py93.X.cell 10 rfl, Py93.X.cell 11 rfl, Py93.X.cell 12 rfl⟩, Py93⟩ ?_; clear hK K hHeld; intro hHeld; try simp only [Act.put, List.setIfInBounds_toArray, List.set_cons_zero, List.set_cons_succ]
          refine Tk.R 9 none (.store 26 (.tmp 3) (.tmp 8)) 0 none (fun K hK => ?_)
          have f0 := b_pA.R.cell 0 rfl
          have q0 := b_pA.R.froz 0 rfl
          go_simp
          clear f0 q0
          have Py940 := hHeld.2.out.of_mid (Mid.set y4 pA 0 (.slice (some ⟨gh, 0, none⟩) (HN c.bs c.bs.length).length ch)) b_pA.lo hA (by simp)
          replace b_pB := b_pB.other n_pB_pA.symm 0 (.slice (some ⟨gh, 0, none⟩) (HN c.bs c.bs.length).length ch)
          replace b_pD := b_pD.other n_pA_pD 0 (.slice (some ⟨gh, 0, none⟩) (HN c.bs c.bs.length).length ch)
          replace b_gh := b_gh.other n_pA_gh 0 (.slice (some ⟨gh, 0, none⟩) (HN c.bs c.bs.length).length ch)
          replace b_pA := b_pA.set 0 (.slice (some ⟨gh, 0, none⟩) (HN c.bs c.bs.length).length ch)
          have Py94 := Py940
          clear Py940
          generalize y4.setCell ⟨pA, 0, none⟩ (.slice (some ⟨gh, 0, none⟩) (HN c.bs c.bs.length).length ch) = y5 at Py94 b_pB b_pA b_pD b_gh ⊢
          try dsimp only
          refine hK.out _ _ ⟨⟨Py94.X.cell 0 rfl, Py94.X.cell 1 rfl, Py94.X.cell 2 rfl, Py94.X.cell 3 rfl, Py94.X.cell 4 rfl, Py94.X.cell 5 rfl, Py94.X.cell 6 rfl, Py94.X.cell 7 rfl, Py94.X.cell 8 rfl, Py94.X.cell 9 rfl, Py94.X.cell 10 rfl, Py94.X.cell 11 rfl, Py94.X.cell 12 rfl⟩, Py94⟩ ?_; clear hK K hHeld; intro hHeld; try simp only [Act.put, List.setIfInBounds_toArray, List.set_cons_zero, List.set_cons_succ]
          refine Tk.R 10 none (.store 79 (.tmp 4) (.tmp 9)) 0 none (fun K hK => ?_)
          have f0 := b_pB.R.cell 0 rfl
          have q0 := b_pB.R.froz 0 rfl
          have f1 := b_pB.R.cell 1 rfl
          have q1 := b_pB.R.froz 1 rfl
          go_simp
          clear f0 q0 f1 q1
          have Py950 := hHeld.2.out.of_mid (Mid.set y5 pB 0 (.int .i64 1)) b_pB.lo hA (by simp)
          replace b_pA := b_pA.other n_pB_pA 0 (.int .i64 1)
          replace b_pD := b_pD.other n_pB_pD 0 (.int .i64 1)
          replace b_gh := b_gh.other n_pB_gh 0 (.int .i64 1)
          replace b_pB := b_pB.set 0 (.int .i64 1)
          have Py951 := Py950.of_mid (Mid.set (y5.setCell ⟨pB, 0, none⟩ (.int .i64 1)) pB 1 (.int .i64 1000)) b_pB.lo hA (by simp)
          replace b_pA := b_pA.other n_pB_pA 1 (.int .i64 1000)
          replace b_pD := b_pD.other n_pB_pD 1 (.int .i64 1000)
          replace b_gh := b_gh.other n_pB_gh 1 (.int .i64 1000)
          replace b_pB := b_pB.set 1 (.int .i64 1000)
          have Py95 := Py951
          clear Py950 Py951
          generalize (y5.setCell ⟨pB, 0, none⟩ (.int .i64 1)).setCell ⟨pB, 1, none⟩ (.int .i64 1000) = y6 at Py95 b_pB b_pA b_pD b_gh ⊢
          try dsimp only
          refine hK.out _ _ ⟨⟨Py95.X.cell 0 rfl, Py95.X.cell 1 rfl, Py95.X.cell 2 rfl, Py95.X.cell 3 rfl, Py95.X.cell 4 rfl, Py95.X.cell 5 rfl, Py95.X.cell 6 rfl, Py95.X.cell 7 rfl, Py95.X.cell 8 rfl, Py95.X.cell 9 rfl, Py95.X.cell 10 rfl, Py95.X.cell 11 rfl, Py95.X.cell 12 rfl⟩, Py95⟩ ?_; clear hK K hHeld; intro hHeld; try simp only [Act.put, List.setIfInBounds_toArray, List.set_cons_zero, List.set_cons_succ]
          refine Tk.R 11 none (.store 79 (.tmp 5) (.tmp 12)) 0 none (fun K hK => ?_)
          have f0 := b_pD.R.cell 0 rfl
          have q0 := b_pD.R.froz 0 rfl
          have f1 := b_pD.R.cell 1 rfl
          have q1 := b_pD.R.froz 1 rfl
          go_simp
          clear f0 q0 f1 q1
          have Py960 := hHeld.2.out.of_mid (Mid.set y6 pD 0 (.int .i64 0)) b_pD.lo hA (by simp)
          replace b_pB := b_pB.other n_pB_pD.symm 0 (.int .i64 0)
          replace b_pA := b_pA.other n_pA_pD.symm 0 (.int .i64 0)
          replace b_gh := b_gh.other n_pD_gh 0 (.int .i64 0)
          replace b_pD := b_pD.set 0 (.int .i64 0)
          have Py961 := Py960.of_mid (Mid.set (y6.setCell ⟨pD, 0, none⟩ (.int .i64 0)) pD 1 (.int .i64 c.now)) b_pD.lo hA (by simp)
          replace b_pB := b_pB.other n_pB_pD.symm 1 (.int .i64 c.now)
          replace b_pA := b_pA.other n_pA_pD.symm 1 (.int .i64 c.now)
          replace b_gh := b_gh.other n_pD_gh 1 (.int .i64 c.now)
          replace b_pD := b_pD.set 1 (.int .i64 c.now)
          have Py96 := Py961
          clear Py960 Py961
          generalize (y6.setCell ⟨pD, 0, none⟩ (.int .i64 0)).setCell ⟨pD, 1, none⟩ (.int .i64 c.now) = y7 at Py96 b_pB b_pA b_pD b_gh ⊢
          try dsimp only
          refine hK.out _ _ ⟨⟨Py96.X.cell 0 rfl, Py96.X.cell 1 rfl, Py96.X.cell 2 rfl, Py96.X.cell 3 rfl, Py96.X.cell 4 rfl, Py96.X.cell 5 rfl, Py96.X.cell 6 rfl, Py96.X.cell 7 rfl, Py96.X.cell 8 rfl, Py96.X.cell 9 rfl, Py96.X.cell 10 rfl, Py96.X.cell 11 rfl, Py96.X.cell 12 rfl⟩, Py96⟩ ?_; clear hK K hHeld; intro hHeld; try simp only [Act.put, List.setIfInBounds_toArray, List.set_cons_zero, List.set_cons_succ]
          refine wpAnyH_done (by kernel_rfl) ?_ _
          refine NoPanic.normal ?_
          have PX := hHeld.2.out
          clear hHeld
          go_wp2_with fail
          go_meet
          case rel => exact ⟨pA, pB, pD, gh, ch, rfl, rfl, rfl, ⟨PX, b_pA, b_pB, b_pD, b_gh⟩⟩
      · go_simp
        have By97 := (Below.refl y1.heap.size y1).alloc (Nat.le_refl _) (.cells #[.int .i64 0, .int .i64 0] 79)
        have lty97 := hHeld.2.out.X.lt (by simp)
        have Py97 := hHeld.2.out.below By97
        obtain ⟨pD, h_pD⟩ : ∃ p, p = y1.heap.size := ⟨_, rfl⟩
        have b_pD := Bk.new (w := w) h_pD lty97 [.int .i64 0, .int .i64 0] 79
        have n_pB_pD : pB ≠ pD := by rw [h_pD]; exact Nat.ne_of_lt b_pB.lt
        replace b_pB := b_pB.below By97
        rw [← h_pD]
        generalize y1.alloc (.cells #[.int .i64 0, .int .i64 0] 79) = y2 at Py97 b_pB b_pD ⊢
        clear By97 h_pD lty97
        try dsimp only
        refine hK.out _ _ ⟨⟨Py97.X.cell 0 rfl, Py97.X.cell 1 rfl, Py97.X.cell 2 rfl, Py97.X.cell 3 rfl, Py97.X.cell 4 rfl, Py97.X.cell 5 rfl, Py97.X.cell 6 rfl, Py97.X.cell 7 rfl, Py97.X.cell 8 rfl, Py97.X.cell 9 rfl, Py97.X.cell 10 rfl, Py97.X.cell 11 rfl, Py97.X.cell 12 rfl⟩, Py97⟩ ?_; clear hK K hHeld; intro hHeld; try simp only [Act.put, List.setIfInBounds_toArray, List.set_cons_zero, List.set_cons_succ]
        refine wpAnyH_ready (rs := [1, 6]) (by kernel_rfl) (by simp) ?_
        refine (AllReadyH.cons (o := ⟨some 8, .call ⟨.value (.func 49), #[.tmp 7], #[35]⟩, 26, _, _, none⟩) rfl (fun K hK => ?_) (AllReadyH.cons (o := ⟨some 3, .alloc 26, 0, _, _, none⟩) rfl (fun K hK => ?_) AllReadyH.nil))
        · go_simp
          refine (i_bareHonest c _ _ _ _ _ _ _ _ _ _ _ _ _ hHeld.2.out.A hb1 HPB.out).mono ?_
          rintro e y3 ⟨⟨gh, ch, rfl, oh⟩, by98⟩
          have Py98 := hHeld.2.out.below by98
          have b_gh : Bk w y3 gh (ints (HN c.bs c.bs.length)) := Bk.own oh (hHeld.2.out.X.lt (by simp))
          have hge : y2.heap.size ≤ gh := oh.data.2.1
          clear oh
          have n_pB_gh : pB ≠ gh := Nat.ne_of_lt (Nat.lt_of_lt_of_le b_pB.lt hge)
          replace b_pB := b_pB.below by98
          have n_pD_gh : pD ≠ gh := Nat.ne_of_lt (Nat.lt_of_lt_of_le b_pD.lt hge)
          replace b_pD := b_pD.below by98
          clear by98 hge
          try dsimp only
          refine hK.out _ _ ⟨⟨Py98.X.cell 0 rfl, Py98.X.cell 1 rfl, Py98.X.cell 2 rfl, Py98.X.cell 3 rfl, Py98.X.cell 4 rfl, Py98.X.cell 5 rfl, Py98.X.cell 6 rfl, Py98.X.cell 7 rfl, Py98.X.cell 8 rfl, Py98.X.cell 9 rfl, Py98.X.cell 10 rfl, Py98.X.cell 11 rfl, Py98.X.cell 12 rfl⟩, Py98⟩ ?_; clear hK K hHeld; intro hHeld; try simp only [Act.put, List.setIfInBounds_toArray, List.set_cons_zero, List.set_cons_succ]
          refine Tk.R 6 (some 3) (.alloc 26) 0 none (fun K hK => ?_)
          go_simp
          have By99 := (Below.refl y3.heap.size y3).alloc (Nat.le_refl _) (.cells #[.slice none 0 0] 26)
          have lty99 := hHeld.2.out.X.lt (by simp)
          have Py99 := hHeld.2.out.below By99
          obtain ⟨pA, h_pA⟩ : ∃ p, p = y3.heap.size := ⟨_, rfl⟩
          have b_pA := Bk.new (w := w) h_pA lty99 [.slice none 0 0] 26
          have n_pB_pA : pB ≠ pA := by rw [h_pA]; exact Nat.ne_of_lt b_pB.lt
          replace b_pB := b_pB.below By99
          have n_pD_pA : pD ≠ pA := by rw [h_pA]; exact Nat.ne_of_lt b_pD.lt
          replace b_pD := b_pD.below By99
          have n_gh_pA : gh ≠ pA := by rw [h_pA]; exact Nat.ne_of_lt b_gh.lt
          replace b_gh := b_gh.below By99
          rw [← h_pA]
          generalize y3.alloc (.cells #[.slice none 0 0] 26) = y4 at Py99 b_pB b_pD b_gh b_pA ⊢
          clear By99 h_pA lty99
          try dsimp only
          refine hK.out _ _ ⟨⟨Py99.X.cell 0 rfl, Py99.X.cell 1 rfl, Py99.X.cell 2 rfl, Py99.X.cell 3 rfl, Py99.X.cell 4 rfl, Py99.X.cell 5 rfl, Py99.X.cell 6 rfl, Py99.X.cell 7 rfl, Py99.X.cell 8 rfl, Py99.X.cell 9 rfl, Py99.X.cell 10 rfl, Py99.X.cell 11 rfl, Py99.X.cell 12 rfl⟩, Py99⟩ ?_; clear hK K hHeld; intro hHeld; try simp only [Act.put, List.setIfInBounds_toArray, List.set_cons_zero, List.set_cons_succ]
          refine Tk.R 9 none (.store 26 (.tmp 3) (.tmp 8)) 0 none (fun K hK => ?_)
          have f0 := b_pA.R.cell 0 rfl
          have q0 := b_pA.R.froz 0 rfl
          go_simp
          clear f0 q0
          have Py1000 := hHeld.2.out.of_mid (Mid.set y4 pA 0 (.slice (some ⟨gh, 0, none⟩) (HN c.bs c.bs.length).length ch)) b_pA.lo hA (by simp)
          replace b_pB := b_pB.other n_pB_pA.symm 0 (.slice (some ⟨gh, 0, none⟩) (HN c.bs c.bs.length).length ch)
          replace b_pD := b_pD.other n_pD_pA.symm 0 (.slice (some ⟨gh, 0, none⟩) (HN c.bs c.bs.length).length ch)
          replace b_gh := b_gh.other n_gh_pA.symm 0 (.slice (some ⟨gh, 0, none⟩) (HN c.bs c.bs.length).length ch)
          replace b_pA := b_pA.set 0 (.slice (some ⟨gh, 0, none⟩) (HN c.bs c.bs.length).length ch)
          have Py100 := Py1000
          clear Py1000
          generalize y4.setCell ⟨pA, 0, none⟩ (.slice (some ⟨gh, 0, none⟩) (HN c.bs c.bs.length).length ch) = y5 at Py100 b_pB b_pD b_gh b_pA ⊢
          try dsimp only
          refine hK.out _ _ ⟨⟨Py100.X.cell 0 rfl, Py100.X.cell 1 rfl, Py100.X.cell 2 rfl, Py100.X.cell 3 rfl, Py100.X.cell 4 rfl, Py100.X.cell 5 rfl, Py100.X.cell 6 rfl, Py100.X.cell 7 rfl, Py100.X.cell 8 rfl, Py100.X.cell 9 rfl, Py100.X.cell 10 rfl, Py100.X.cell 11 rfl, Py100.X.cell 12 rfl⟩, Py100⟩ ?_; clear hK K hHeld; intro hHeld; try simp only [Act.put, List.setIfInBounds_toArray, List.set_cons_zero, List.set_cons_succ]
          refine Tk.R 10 none (.store 79 (.tmp 4) (.tmp 9)) 0 none (fun K hK => ?_)
          have f0 := b_pB.R.cell 0 rfl
          have q0 := b_pB.R.froz 0 rfl
          have f1 := b_pB.R.cell 1 rfl
          have q1 := b_pB.R.froz 1 rfl
          go_simp
          clear f0 q0 f1 q1
          have Py1010 := hHeld.2.out.of_mid (Mid.set y5 pB 0 (.int .i64 1)) b_pB.lo hA (by simp)
          replace b_pD := b_pD.other n_pB_pD 0 (.int .i64 1)
          replace b_gh := b_gh.other n_pB_gh 0 (.int .i64 1)
          replace b_pA := b_pA.other n_pB_pA 0 (.int .i64 1)
          replace b_pB := b_pB.set 0 (.int .i64 1)
          have Py1011 := Py1010.of_mid (Mid.set (y5.setCell ⟨pB, 0, none⟩ (.int .i64 1)) pB 1 (.int .i64 1000)) b_pB.lo hA (by simp)
          replace b_pD := b_pD.other n_pB_pD 1 (.int .i64 1000)
          replace b_gh := b_gh.other n_pB_gh 1 (.int .i64 1000)
          replace b_pA := b_pA.other n_pB_pA 1 (.int .i64 1000)
          replace b_pB := b_pB.set 1 (.int .i64 1000)
          have Py101 := Py1011
          clear Py1010 Py1011
          generalize (y5.setCell ⟨pB, 0, none⟩ (.int .i64 1)).setCell ⟨pB, 1, none⟩ (.int .i64 1000) = y6 at Py101 b_pB b_pD b_gh b_pA ⊢
          try dsimp only
          refine hK.out _ _ ⟨⟨Py101.X.cell 0 rfl, Py101.X.cell 1 rfl, Py101.X.cell 2 rfl, Py101.X.cell 3 rfl, Py101.X.cell 4 rfl, Py101.X.cell 5 rfl, Py101.X.cell 6 rfl, Py101.X.cell 7 rfl, Py101.X.cell 8 rfl, Py101.X.cell 9 rfl, Py101.X.cell 10 rfl, Py101.X.cell 11 rfl, Py101.X.cell 12 rfl⟩, Py101⟩ ?_; clear hK K hHeld; intro hHeld; try simp only [Act.put, List.setIfInBounds_toArray, List.set_cons_zero, List.set_cons_succ]
          refine Tk.R 11 none (.store 79 (.tmp 5) (.tmp 12)) 0 none (fun K hK => ?_)
          have f0 := b_pD.R.cell 0 rfl
          have q0 := b_pD.R.froz 0 rfl
          have f1 := b_pD.R.cell 1 rfl
          have q1 := b_pD.R.froz 1 rfl
          go_simp
          clear f0 q0 f1 q1
          have Py1020 := hHeld.2.out.of_mid (Mid.set y6 pD 0 (.int .i64 0)) b_pD.lo hA (by simp)
          replace b_pB := b_pB.other n_pB_pD.symm 0 (.int .i64 0)
          replace b_gh := b_gh.other n_pD_gh 0 (.int .i64 0)
          replace b_pA := b_pA.other n_pD_pA 0 (.int .i64 0)
          replace b_pD := b_pD.set 0 (.int .i64 0)
          have Py1021 := Py1020.of_mid (Mid.set (y6.setCell ⟨pD, 0, none⟩ (.int .i64 0)) pD 1 (.int .i64 c.now)) b_pD.lo hA (by simp)
          replace b_pB := b_pB.other n_pB_pD.symm 1 (.int .i64 c.now)
          replace b_gh := b_gh.other n_pD_gh 1 (.int .i64 c.now)
          replace b_pA := b_pA.other n_pD_pA 1 (.int .i64 c.now)
          replace b_pD := b_pD.set 1 (.int .i64 c.now)
          have Py102 := Py1021
          clear Py1020 Py1021
          generalize (y6.setCell ⟨pD, 0, none⟩ (.int .i64 0)).setCell ⟨pD, 1, none⟩ (.int .i64 c.now) = y7 at Py102 b_pB b_pD b_gh b_pA ⊢
          try dsimp only
          refine hK.out _ _ ⟨⟨Py102.X.cell 0 rfl, Py102.X.cell 1 rfl, Py102.X.cell 2 rfl, Py102.X.cell 3 rfl, Py102.X.cell 4 rfl, Py102.X.cell 5 rfl, Py102.X.cell 6 rfl, Py102.X.cell 7 rfl, Py102.X.cell 8 rfl, Py102.X.cell 9 rfl, Py102.X.cell 10 rfl, Py102.X.cell 11 rfl, Py102.X.cell 12 rfl⟩, Py102⟩ ?_; clear hK K hHeld; intro hHeld; try simp only [Act.put, List.setIfInBounds_toArray, List.set_cons_zero, List.set_cons_succ]
          refine wpAnyH_done (by kernel_rfl) ?_ _
          refine NoPanic.normal ?_
          have PX := hHeld.2.out
          clear hHeld
          go_wp2_with fail
          go_meet
          case rel => exact ⟨pA, pB, pD, gh, ch, rfl, rfl, rfl, ⟨PX, b_pA, b_pB, b_pD, b_gh⟩⟩
        · go_simp
          have By103 := (Below.refl y2.heap.size y2).alloc (Nat.le_refl _) (.cells #[.slice none 0 0] 26)
          have lty103 := hHeld.2.out.X.lt (by simp)
          have Py103 := hHeld.2.out.below By103
          obtain ⟨pA, h_pA⟩ : ∃ p, p = y2.heap.size := ⟨_, rfl⟩
          have b_pA := Bk.new (w := w) h_pA lty103 [.slice none 0 0] 26
          have n_pB_pA : pB ≠ pA := by rw [h_pA]; exact Nat.ne_of_lt b_pB.lt
          replace b_pB := b_pB.below By103
          have n_pD_pA : pD ≠ pA := by rw [h_pA]; exact Nat.ne_of_lt b_pD.lt
          replace b_pD := b_pD.below By103
          rw [← h_pA]
          generalize y2.alloc (.cells #[.slice none 0 0] 26) = y3 at Py103 b_pB b_pD b_pA ⊢
          clear By103 h_pA lty103
          try dsimp only
          refine hK.out _ _ ⟨⟨Py103.X.cell 0 rfl, Py103.X.cell 1 rfl, Py103.X.cell 2 rfl, Py103.X.cell 3 rfl, Py103.X.cell 4 rfl, Py103.X.cell 5 rfl, Py103.X.cell 6 rfl, Py103.X.cell 7 rfl, Py103.X.cell 8 rfl, Py103.X.cell 9 rfl, Py103.X.cell 10 rfl, Py103.X.cell 11 rfl, Py103.X.cell 12 rfl⟩, Py103⟩ ?_; clear hK K hHeld; intro hHeld; try simp only [Act.put, List.setIfInBounds_toArray, List.set_cons_zero, List.set_cons_succ]
          refine Tk.R 1 (some 8) (.call ⟨.value (.func 49), #[.tmp 7], #[35]⟩) 26 none (fun K hK => ?_)
          go_simp
          refine (i_bareHonest c _ _ _ _ _ _ _ _ _ _ _ _ _ hHeld.2.out.A hb1 HPB.out).mono ?_
          rintro e y4 ⟨⟨gh, ch, rfl, oh⟩, by104⟩
          have Py104 := hHeld.2.out.below by104
          have b_gh : Bk w y4 gh (ints (HN c.bs c.bs.length)) := Bk.own oh (hHeld.2.out.X.lt (by simp))
          have hge : y3.heap.size ≤ gh := oh.data.2.1
          clear oh
          have n_pB_gh : pB ≠ gh := Nat.ne_of_lt (Nat.lt_of_lt_of_le b_pB.lt hge)
          replace b_pB := b_pB.below by104
          have n_pD_gh : pD ≠ gh := Nat.ne_of_lt (Nat.lt_of_lt_of_le b_pD.lt hge)
          replace b_pD := b_pD.below by104
          have n_pA_gh : pA ≠ gh := Nat.ne_of_lt (Nat.lt_of_lt_of_le b_pA.lt hge)
          replace b_pA := b_pA.below by104
          clear by104 hge
          try dsimp only
          refine hK.out _ _ ⟨⟨Py104.X.cell 0 rfl, Py104.X.cell 1 rfl, Py104.X.cell 2 rfl, Py104.X.cell 3 rfl, Py104.X.cell 4 rfl, Py104.X.cell 5 rfl, Py104.X.cell 6 rfl, Py104.X.cell 7 rfl, Py104.X.cell 8 rfl, Py104.X.cell 9 rfl, Py104.X.cell 10 rfl, Py104.X.cell 11 rfl, Py104.X.cell 12 rfl⟩, Py104⟩ ?_; clear hK K hHeld; intro hHeld; try simp only [Act.put, List.setIfInBounds_toArray, List.set_cons_zero, List.set_cons_succ]
          refine Tk.R 9 none (.store 26 (.tmp 3) (.tmp 8)) 0 none (fun K hK => ?_)
          have f0 := b_pA.R.cell 0 rfl
          have q0 := b_pA.R.froz 0 rfl
          go_simp
          clear f0 q0
          have Py1050 := hHeld.2.out.of_mid (Mid.set y4 pA 0 (.slice (some ⟨gh, 0, none⟩) (HN c.bs c.bs.length).length ch)) b_pA.lo hA (by simp)
          replace b_pB := b_pB.other n_pB_pA.symm 0 (.slice (some ⟨gh, 0, none⟩) (HN c.bs c.bs.length).length ch)
          replace b_pD := b_pD.other n_pD_pA.symm 0 (.slice (some ⟨gh, 0, none⟩) (HN c.bs c.bs.length).length ch)
          replace b_gh := b_gh.other n_pA_gh 0 (.slice (some ⟨gh, 0, none⟩) (HN c.bs c.bs.length).length ch)
          replace b_pA := b_pA.set 0 (.slice (some ⟨gh, 0, none⟩) (HN c.bs c.bs.length).length ch)
          have Py105 := Py1050
          clear Py1050
          generalize y4.setCell ⟨pA, 0, none⟩ (.slice (some ⟨gh, 0, none⟩) (HN c.bs c.bs.length).length ch) = y5 at Py105 b_pB b_pD b_pA b_gh ⊢
          try dsimp only
          refine hK.out _ _ ⟨⟨Py105.X.cell 0 rfl, Py105.X.cell 1 rfl, Py105.X.cell 2 rfl, Py105.X.cell 3 rfl, Py105.X.cell 4 rfl, Py105.X.cell 5 rfl, Py105.X.cell 6 rfl, Py105.X.cell 7 rfl, Py105.X.cell 8 rfl, Py105.X.cell 9 rfl, Py105.X.cell 10 rfl, Py105.X.cell 11 rfl, Py105.X.cell 12 rfl⟩, Py105⟩ ?_; clear hK K hHeld; intro hHeld; try simp only [Act.put, List.setIfInBounds_toArray, List.set_cons_zero, List.set_cons_succ]
          refine Tk.R 10 none (.store 79 (.tmp 4) (.tmp 9)) 0 none (fun K hK => ?_)
          have f0 := b_pB.R.cell 0 rfl
          have q0 := b_pB.R.froz 0 rfl
          have f1 := b_pB.R.cell 1 rfl
          have q1 := b_pB.R.froz 1 rfl
          go_simp
          clear f0 q0 f1 q1
          have Py1060 := hHeld.2.out.of_mid (Mid.set y5 pB 0 (.int .i64 1)) b_pB.lo hA (by simp)
          replace b_pD := b_pD.other n_pB_pD 0 (.int .i64 1)
          replace b_pA := b_pA.other n_pB_pA 0 (.int .i64 1)
          replace b_gh := b_gh.other n_pB_gh 0 (.int .i64 1)
          replace b_pB := b_pB.set 0 (.int .i64 1)
          have Py1061 := Py1060.of_mid (Mid.set (y5.setCell ⟨pB, 0, none⟩ (.int .i64 1)) pB 1 (.int .i64 1000)) b_pB.lo hA (by simp)
          replace b_pD := b_pD.other n_pB_pD 1 (.int .i64 1000)
          replace b_pA := b_pA.other n_pB_pA 1 (.int .i64 1000)
          replace b_gh := b_gh.other n_pB_gh 1 (.int .i64 1000)
          replace b_pB := b_pB.set 1 (.int .i64 1000)
          have Py106 := Py1061
          clear Py1060 Py1061
          generalize (y5.setCell ⟨pB, 0, none⟩ (.int .i64 1)).setCell ⟨pB, 1, none⟩ (.int .i64 1000) = y6 at Py106 b_pB b_pD b_pA b_gh ⊢
          try dsimp only
          refine hK.out _ _ ⟨⟨Py106.X.cell 0 rfl, Py106.X.cell 1 rfl, Py106.X.cell 2 rfl, Py106.X.cell 3 rfl, Py106.X.cell 4 rfl, Py106.X.cell 5 rfl, Py106.X.cell 6 rfl, Py106.X.cell 7 rfl, Py106.X.cell 8 rfl, Py106.X.cell 9 rfl, Py106.X.cell 10 rfl, Py106.X.cell 11 rfl, Py106.X.cell 12 rfl⟩, Py106⟩ ?_; clear hK K hHeld; intro hHeld; try simp only [Act.put, List.setIfInBounds_toArray, List.set_cons_zero, List.set_cons_succ]
          refine Tk.R 11 none (.store 79 (.tmp 5) (.tmp 12)) 0 none (fun K hK => ?_)
          have f0 := b_pD.R.cell 0 rfl
          have q0 := b_pD.R.froz 0 rfl
          have f1 := b_pD.R.cell 1 rfl
          have q1 := b_pD.R.froz 1 rfl
          go_simp
          clear f0 q0 f1 q1
          have Py1070 := hHeld.2.out.of_mid (Mid.set y6 pD 0 (.int .i64 0)) b_pD.lo hA (by simp)
          replace b_pB := b_pB.other n_pB_pD.symm 0 (.int .i64 0)
          replace b_pA := b_pA.other n_pD_pA 0 (.int .i64 0)
          replace b_gh := b_gh.other n_pD_gh 0 (.int .i64 0)
          replace b_pD := b_pD.set 0 (.int .i64 0)
          have Py1071 := Py1070.of_mid (Mid.set (y6.setCell ⟨pD, 0, none⟩ (.int .i64 0)) pD 1 (.int .i64 c.now)) b_pD.lo hA (by simp)
          replace b_pB := b_pB.other n_pB_pD.symm 1 (.int .i64 c.now)
          replace b_pA := b_pA.other n_pD_pA 1 (.int .i64 c.now)
          replace b_gh := b_gh.other n_pD_gh 1 (.int .i64 c.now)
          replace b_pD := b_pD.set 1 (.int .i64 c.now)
          have Py107 := Py1071
          clear Py1070 Py1071
          generalize (y6.setCell ⟨pD, 0, none⟩ (.int .i64 0)).setCell ⟨pD, 1, none⟩ (.int .i64 c.now) = y7 at Py107 b_pB b_pD b_pA b_gh ⊢
          try dsimp only
          refine hK.out _ _ ⟨⟨Py107.X.cell 0 rfl, Py107.X.cell 1 rfl, Py107.X.cell 2 rfl, Py107.X.cell 3 rfl, Py107.X.cell 4 rfl, Py107.X.cell 5 rfl, Py107.X.cell 6 rfl, Py107.X.cell 7 rfl, Py107.X.cell 8 rfl, Py107.X.cell 9 rfl, Py107.X.cell 10 rfl, Py107.X.cell 11 rfl, Py107.X.cell 12 rfl⟩, Py107⟩ ?_; clear hK K hHeld; intro hHeld; try simp only [Act.put, List.setIfInBounds_toArray, List.set_cons_zero, List.set_cons_succ]
          refine wpAnyH_done (by kernel_rfl) ?_ _
          refine NoPanic.normal ?_
          have PX := hHeld.2.out
          clear hHeld
          go_wp2_with fail
          go_meet
          case rel => exact ⟨pA, pB, pD, gh, ch, rfl, rfl, rfl, ⟨PX, b_pA, b_pB, b_pD, b_gh⟩⟩
    · go_simp
      have By108 := (Below.refl y0.heap.size y0).alloc (Nat.le_refl _) (.cells #[.int .i64 0, .int .i64 0] 79)
      have lty108 := hHeld.2.out.X.lt (by simp)
      have Py108 := hHeld.2.out.below By108
      obtain ⟨pD, h_pD⟩ : ∃ p, p = y0.heap.size := ⟨_, rfl⟩
      have b_pD := Bk.new (w := w) h_pD lty108 [.int .i64 0, .int .i64 0] 79
      rw [← h_pD]
      generalize y0.alloc (.cells #[.int .i64 0, .int .i64 0] 79) = y1 at Py108 b_pD ⊢
      clear By108 h_pD lty108
      try dsimp only
      refine hK.out _ _ ⟨⟨Py108.X.cell 0 rfl, Py108.X.cell 1 rfl, Py108.X.cell 2 rfl, Py108.X.cell 3 rfl, Py108.X.cell 4 rfl, Py108.X.cell 5 rfl, Py108.X.cell 6 rfl, Py108.X.cell 7 rfl, Py108.X.cell 8 rfl, Py108.X.cell 9 rfl, Py108.X.cell 10 rfl, Py108.X.cell 11 rfl, Py108.X.cell 12 rfl⟩, Py108⟩ ?_; clear hK K hHeld; intro hHeld; try simp only [Act.put, List.setIfInBounds_toArray, List.set_cons_zero, List.set_cons_succ]
      refine wpAnyH_ready (rs := [1, 6, 7]) (by kernel_rfl) (by simp) ?_
      refine (AllReadyH.cons (o := ⟨some 8, .call ⟨.value (.func 49), #[.tmp 7], #[35]⟩, 26, _, _, none⟩) rfl (fun K hK => ?_) (AllReadyH.cons (o := ⟨some 3, .alloc 26, 0, _, _, none⟩) rfl (fun K hK => ?_) (AllReadyH.cons (o := ⟨some 4, .alloc 79, 0, _, _, none⟩) rfl (fun K hK => ?_) AllReadyH.nil)))
      · go_simp
        refine (i_bareHonest c _ _ _ _ _ _ _ _ _ _ _ _ _ hHeld.2.out.A hb1 HPB.out).mono ?_
        rintro e y2 ⟨⟨gh, ch, rfl, oh⟩, by109⟩
        have Py109 := hHeld.2.out.below by109
        have b_gh : Bk w y2 gh (ints (HN c.bs c.bs.length)) := Bk.own oh (hHeld.2.out.X.lt (by simp))
        have hge : y1.heap.size ≤ gh := oh.data.2.1
        clear oh
        have n_pD_gh : pD ≠ gh := Nat.ne_of_lt (Nat.lt_of_lt_of_le b_pD.lt hge)
        replace b_pD := b_pD.below by109
        clear by109 hge
        try dsimp only
        refine hK.out _ _ ⟨⟨Py109.X.cell 0 rfl, Py109.X.cell 1 rfl, Py109.X.cell 2 rfl, Py109.X.cell 3 rfl, Py109.X.cell 4 rfl, Py109.X.cell 5 rfl, Py109.X.cell 6 rfl, Py109.X.cell 7 rfl, Py109.X.cell 8 rfl, Py109.X.cell 9 rfl, Py109.X.cell 10 rfl, Py109.X.cell 11 rfl, Py109.X.cell 12 rfl⟩, Py109⟩ ?_; clear hK K hHeld; intro hHeld; try simp only [Act.put, List.setIfInBounds_toArray, List.set_cons_zero, List.set_cons_succ]
        refine wpAnyH_ready (rs := [6, 7]) (by kernel_rfl) (by simp) ?_
        refine (AllReadyH.cons (o := ⟨some 3, .alloc 26, 0, _, _, none⟩) rfl (fun K hK => ?_) (AllReadyH.cons (o := ⟨some 4, .alloc 79, 0, _, _, none⟩) rfl (fun K hK => ?_) AllReadyH.nil))
        · go_simp
          have By110 := (Below.refl y2.heap.size y2).alloc (Nat.le_refl _) (.cells #[.slice none 0 0] 26)
          have lty110 := hHeld.2.out.X.lt (by simp)
          have Py110 := hHeld.2.out.below By110
          obtain ⟨pA, h_pA⟩ : ∃ p, p = y2.heap.size := ⟨_, rfl⟩
          have b_pA := Bk.new (w := w) h_pA lty110 [.slice none 0 0] 26
          have n_pD_pA : pD ≠ pA := by rw [h_pA]; exact Nat.ne_of_lt b_pD.lt
          replace b_pD := b_pD.below By110
          have n_gh_pA : gh ≠ pA := by rw [h_pA]; exact Nat.ne_of_lt b_gh.lt
          replace b_gh := b_gh.below By110
          rw [← h_pA]
          generalize y2.alloc (.cells #[.slice none 0 0] 26) = y3 at Py110 b_pD b_gh b_pA ⊢
          clear By110 h_pA lty110
          try dsimp only
          refine hK.out _ _ ⟨⟨Py110.X.cell 0 rfl, Py110.X.cell 1 rfl, Py110.X.cell 2 rfl, Py110.X.cell 3 rfl, Py110.X.cell 4 rfl, Py110.X.cell 5 rfl, Py110.X.cell 6 rfl, Py110.X.cell 7 rfl, Py110.X.cell 8 rfl, Py110.X.cell 9 rfl, Py110.X.cell 10 rfl, Py110.X.cell 11 rfl, Py110.X.cell 12 rfl⟩, Py110⟩ ?_; clear hK K hHeld; intro hHeld; try simp only [Act.put, List.setIfInBounds_toArray, List.set_cons_zero, List.set_cons_succ]
          refine Tk.R 7 (some 4) (.alloc 79) 0 none (fun K hK => ?_)
          go_simp
          have By111 := (Below.refl y3.heap.size y3).alloc (Nat.le_refl _) (.cells #[.int .i64 0, .int .i64 0] 79)
          have lty111 := hHeld.2.out.X.lt (by simp)
          have Py111 := hHeld.2.out.below By111
          obtain ⟨pB, h_pB⟩ : ∃ p, p = y3.heap.size := ⟨_, rfl⟩
          have b_pB := Bk.new (w := w) h_pB lty111 [.int .i64 0, .int .i64 0] 79
          have n_pD_pB : pD ≠ pB := by rw [h_pB]; exact Nat.ne_of_lt b_pD.lt
          replace b_pD := b_pD.below By111
          have n_gh_pB : gh ≠ pB := by rw [h_pB]; exact Nat.ne_of_lt b_gh.lt
          replace b_gh := b_gh.below By111
          have n_pA_pB : pA ≠ pB := by rw [h_pB]; exact Nat.ne_of_lt b_pA.lt
          replace b_pA := b_pA.below By111
          rw [← h_pB]
          generalize y3.alloc (.cells #[.int .i64 0, .int .i64 0] 79) = y4 at Py111 b_pD b_gh b_pA b_pB ⊢
          clear By111 h_pB lty111
          try dsimp only
          refine hK.out _ _ ⟨⟨Py111.X.cell 0 rfl, Py111.X.cell 1 rfl, Py111.X.cell 2 rfl, Py111.X.cell 3 rfl, Py111.X.cell 4 rfl, Py111.X.cell 5 rfl, Py111.X.cell 6 rfl, Py111.X.cell 7 rfl, Py111.X.cell 8 rfl, Py111.X.cell 9 rfl, Py111.X.cell 10 rfl, Py111.X.cell 11 rfl, Py111.X.cell 12 rfl⟩, Py111⟩ ?_; clear hK K hHeld; intro hHeld; try simp only [Act.put, List.setIfInBounds_toArray, List.set_cons_zero, List.set_cons_succ]
          refine Tk.R 9 none (.store 26 (.tmp 3) (.tmp 8)) 0 none (fun K hK => ?_)
          have f0 := b_pA.R.cell 0 rfl
          have q0 := b_pA.R.froz 0 rfl
          go_simp
          clear f0 q0
          have Py1120 := hHeld.2.out.of_mid (Mid.set y4 pA 0 (.slice (some ⟨gh, 0, none⟩) (HN c.bs c.bs.length).length ch)) b_pA.lo hA (by simp)
          replace b_pD := b_pD.other n_pD_pA.symm 0 (.slice (some ⟨gh, 0, none⟩) (HN c.bs c.bs.length).length ch)
          replace b_gh := b_gh.other n_gh_pA.symm 0 (.slice (some ⟨gh, 0, none⟩) (HN c.bs c.bs.length).length ch)
          replace b_pB := b_pB.other n_pA_pB 0 (.slice (some ⟨gh, 0, none⟩) (HN c.bs c.bs.length).length ch)
          replace b_pA := b_pA.set 0 (.slice (some ⟨gh, 0, none⟩) (HN c.bs c.bs.length).length ch)
          have Py112 := Py1120
          clear Py1120
          generalize y4.setCell ⟨pA, 0, none⟩ (.slice (some ⟨gh, 0, none⟩) (HN c.bs c.bs.length).length ch) = y5 at Py112 b_pD b_gh b_pA b_pB ⊢
          try dsimp only
          refine hK.out _ _ ⟨⟨Py112.X.cell 0 rfl, Py112.X.cell 1 rfl, Py112.X.cell 2 rfl, Py112.X.cell 3 rfl, Py112.X.cell 4 rfl, Py112.X.cell 5 rfl, Py112.X.cell 6 rfl, Py112.X.cell 7 rfl, Py112.X.cell 8 rfl, Py112.X.cell 9 rfl, Py112.X.cell 10 rfl, Py112.X.cell 11 rfl, Py112.X.cell 12 rfl⟩, Py112⟩ ?_; clear hK K hHeld; intro hHeld; try simp only [Act.put, List.setIfInBounds_toArray, List.set_cons_zero, List.set_cons_succ]
          refine Tk.R 10 none (.store 79 (.tmp 4) (.tmp 9)) 0 none (fun K hK => ?_)
          have f0 := b_pB.R.cell 0 rfl
          have q0 := b_pB.R.froz 0 rfl
          have f1 := b_pB.R.cell 1 rfl
          have q1 := b_pB.R.froz 1 rfl
          go_simp
          clear f0 q0 f1 q1
          have Py1130 := hHeld.2.out.of_mid (Mid.set y5 pB 0 (.int .i64 1)) b_pB.lo hA (by simp)
          replace b_pD := b_pD.other n_pD_pB.symm 0 (.int .i64 1)
          replace b_gh := b_gh.other n_gh_pB.symm 0 (.int .i64 1)
          replace b_pA := b_pA.other n_pA_pB.symm 0 (.int .i64 1)
          replace b_pB := b_pB.set 0 (.int .i64 1)
          have Py1131 := Py1130.of_mid (Mid.set (y5.setCell ⟨pB, 0, none⟩ (.int .i64 1)) pB 1 (.int .i64 1000)) b_pB.lo hA (by simp)
          replace b_pD := b_pD.other n_pD_pB.symm 1 (.int .i64 1000)
          replace b_gh := b_gh.other n_gh_pB.symm 1 (.int .i64 1000)
          replace b_pA := b_pA.other n_pA_pB.symm 1 (.int .i64 1000)
          replace b_pB := b_pB.set 1 (.int .i64 1000)
          have Py113 := Py1131
          clear Py1130 Py1131
          generalize (y5.setCell ⟨pB, 0, none⟩ (.int .i64 1)).setCell ⟨pB, 1, none⟩ (.int .i64 1000) = y6 at Py113 b_pD b_gh b_pA b_pB ⊢
          try dsimp only
          refine hK.out _ _ ⟨⟨Py113.X.cell 0 rfl, Py113.X.cell 1 rfl, Py113.X.cell 2 rfl, Py113.X.cell 3 rfl, Py113.X.cell 4 rfl, Py113.X.cell 5 rfl, Py113.X.cell 6 rfl, Py113.X.cell 7 rfl, Py113.X.cell 8 rfl, Py113.X.cell 9 rfl, Py113.X.cell 10 rfl, Py113.X.cell 11 rfl, Py113.X.cell 12 rfl⟩, Py113⟩ ?_; clear hK K hHeld; intro hHeld; try simp only [Act.put, List.setIfInBounds_toArray, List.set_cons_zero, List.set_cons_succ]
          refine Tk.R 11 none (.store 79 (.tmp 5) (.tmp 12)) 0 none (fun K hK => ?_)
          have f0 := b_pD.R.cell 0 rfl
          have q0 := b_pD.R.froz 0 rfl
          have f1 := b_pD.R.cell 1 rfl
          have q1 := b_pD.R.froz 1 rfl
          go_simp
          clear f0 q0 f1 q1
          have Py1140 := hHeld.2.out.of_mid (Mid.set y6 pD 0 (.int .i64 0)) b_pD.lo hA (by simp)
          replace b_gh := b_gh.other n_pD_gh 0 (.int .i64 0)
          replace b_pA := b_pA.other n_pD_pA 0 (.int .i64 0)
          replace b_pB := b_pB.other n_pD_pB 0 (.int .i64 0)
          replace b_pD := b_pD.set 0 (.int .i64 0)
          have Py1141 := Py1140.of_mid (Mid.set (y6.setCell ⟨pD, 0, none⟩ (.int .i64 0)) pD 1 (.int .i64 c.now)) b_pD.lo hA (by simp)
          replace b_gh := b_gh.other n_pD_gh 1 (.int .i64 c.now)
          replace b_pA := b_pA.other n_pD_pA 1 (.int .i64 c.now)
          replace b_pB := b_pB.other n_pD_pB 1 (.int .i64 c.now)
          replace b_pD := b_pD.set 1 (.int .i64 c.now)
          have Py114 := Py1141
          clear Py1140 Py1141
          generalize (y6.setCell ⟨pD, 0, none⟩ (.int .i64 0)).setCell ⟨pD, 1, none⟩ (.int .i64 c.now) = y7 at Py114 b_pD b_gh b_pA b_pB ⊢
          try dsimp only
          refine hK.out _ _ ⟨⟨Py114.X.cell 0 rfl, Py114.X.cell 1 rfl, Py114.X.cell 2 rfl, Py114.X.cell 3 rfl, Py114.X.cell 4 rfl, Py114.X.cell 5 rfl, Py114.X.cell 6 rfl, Py114.X.cell 7 rfl, Py114.X.cell 8 rfl, Py114.X.cell 9 rfl, Py114.X.cell 10 rfl, Py114.X.cell 11 rfl, Py114.X.cell 12 rfl⟩, Py114⟩ ?_; clear hK K hHeld; intro hHeld; try simp only [Act.put, List.setIfInBounds_toArray, List.set_cons_zero, List.set_cons_succ]
          refine wpAnyH_done (by kernel_rfl) ?_ _
          refine NoPanic.normal ?_
          have PX := hHeld.2.out
          clear hHeld
          go_wp2_with fail
          go_meet
          case rel => exact ⟨pA, pB, pD, gh, ch, rfl, rfl, rfl, ⟨PX, b_pA, b_pB, b_pD, b_gh⟩⟩
        · go_simp
          have By115 := (Below.refl y2.heap.size y2).alloc (Nat.le_refl _) (.cells #[.int .i64 0, .int .i64 0] 79)
          have lty115 := hHeld.2.out.X.lt (by simp)
          have Py115 := hHeld.2.out.below By115
          obtain ⟨pB, h_pB⟩ : ∃ p, p = y2.heap.size := ⟨_, rfl⟩
          have b_pB := Bk.new (w := w) h_pB lty115 [.int .i64 0, .int .i64 0] 79
          have n_pD_pB : pD ≠ pB := by rw [h_pB]; exact Nat.ne_of_lt b_pD.lt
          replace b_pD := b_pD.below By115
          have n_gh_pB : gh ≠ pB := by rw [h_pB]; exact Nat.ne_of_lt b_gh.lt
          replace b_gh := b_gh.below By115
          rw [← h_pB]
          generalize y2.alloc (.cells #[.int .i64 0, .int .i64 0] 79) = y3 at Py115 b_pD b_gh b_pB ⊢
          clear By115 h_pB lty115
          try dsimp only
          refine hK.out _ _ ⟨⟨Py115.X.cell 0 rfl, Py115.X.cell 1 rfl, Py115.X.cell 2 rfl, Py115.X.cell 3 rfl, Py115.X.cell 4 rfl, Py115.X.cell 5 rfl, Py115.X.cell 6 rfl, Py115.X.cell 7 rfl, Py115.X.cell 8 rfl, Py115.X.cell 9 rfl, Py115.X.cell 10 rfl, Py115.X.cell 11 rfl, Py115.X.cell 12 rfl⟩, Py115⟩ ?_; clear hK K hHeld; intro hHeld; try simp only [Act.put, List.setIfInBounds_toArray, List.set_cons_zero, List.set_cons_succ]
          refine Tk.R 6 (some 3) (.alloc 26) 0 none (fun K hK => ?_)
          go_simp
          have By116 := (Below.refl y3.heap.size y3).alloc (Nat.le_refl _) (.cells #[.slice none 0 0] 26)
          have lty116 := hHeld.2.out.X.lt (by simp)
          have Py116 := hHeld.2.out.below By116
          obtain ⟨pA, h_pA⟩ : ∃ p, p = y3.heap.size := ⟨_, rfl⟩
          have b_pA := Bk.new (w := w) h_pA lty116 [.slice none 0 0] 26
          have n_pD_pA : pD ≠ pA := by rw [h_pA]; exact Nat.ne_of_lt b_pD.lt
          replace b_pD := b_pD.below By116
          have n_gh_pA : gh ≠ pA := by rw [h_pA]; exact Nat.ne_of_lt b_gh.lt
          replace b_gh := b_gh.below By116
          have n_pB_pA : pB ≠ pA := by rw [h_pA]; exact Nat.ne_of_lt b_pB.lt
          replace b_pB := b_pB.below By116
          rw [← h_pA]
          generalize y3.alloc (.cells #[.slice none 0 0] 26) = y4 at Py116 b_pD b_gh b_pB b_pA ⊢
          clear By116 h_pA lty116
          try dsimp only
          refine hK.out _ _ ⟨⟨Py116.X.cell 0 rfl, Py116.X.cell 1 rfl, Py116.X.cell 2 rfl, Py116.X.cell 3 rfl, Py116.X.cell 4 rfl, Py116.X.cell 5 rfl, Py116.X.cell 6 rfl, Py116.X.cell 7 rfl, Py116.X.cell 8 rfl, Py116.X.cell 9 rfl, Py116.X.cell 10 rfl, Py116.X.cell 11 rfl, Py116.X.cell 12 rfl⟩, Py116⟩ ?_; clear hK K hHeld; intro hHeld; try simp only [Act.put, List.setIfInBounds_toArray, List.set_cons_zero, List.set_cons_succ]
          refine Tk.R 9 none (.store 26 (.tmp 3) (.tmp 8)) 0 none (fun K hK => ?_)
          have f0 := b_pA.R.cell 0 rfl
          have q0 := b_pA.R.froz 0 rfl
          go_simp
          clear f0 q0
          have Py1170 := hHeld.2.out.of_mid (Mid.set y4 pA 0 (.slice (some ⟨gh, 0, none⟩) (HN c.bs c.bs.length).length ch)) b_pA.lo hA (by simp)
          replace b_pD := b_pD.other n_pD_pA.symm 0 (.slice (some ⟨gh, 0, none⟩) (HN c.bs c.bs.length).length ch)
          replace b_gh := b_gh.other n_gh_pA.symm 0 (.slice (some ⟨gh, 0, none⟩) (HN c.bs c.bs.length).length ch)
          replace b_pB := b_pB.other n_pB_pA.symm 0 (.slice (some ⟨gh, 0, none⟩) (HN c.bs c.bs.length).length ch)
          replace b_pA := b_pA.set 0 (.slice (some ⟨gh, 0, none⟩) (HN c.bs c.bs.length).length ch)
          have Py117 := Py1170
          clear Py1170
          generalize y4.setCell ⟨pA, 0, none⟩ (.slice (some ⟨gh, 0, none⟩) (HN c.bs c.bs.length).length ch) = y5 at Py117 b_pD b_gh b_pB b_pA ⊢
          try dsimp only
          refine hK.out _ _ ⟨⟨Py117.X.cell 0 rfl, Py117.X.cell 1 rfl, Py117.X.cell 2 rfl, Py117.X.cell 3 rfl, Py117.X.cell 4 rfl, Py117.X.cell 5 rfl, Py117.X.cell 6 rfl, Py117.X.cell 7 rfl, Py117.X.cell 8 rfl, Py117.X.cell 9 rfl, Py117.X.cell 10 rfl, Py117.X.cell 11 rfl, Py117.X.cell 12 rfl⟩, Py117⟩ ?_; clear hK K hHeld; intro hHeld; try simp only [Act.put, List.setIfInBounds_toArray, List.set_cons_zero, List.set_cons_succ]
          refine Tk.R 10 none (.store 79 (.tmp 4) (.tmp 9)) 0 none (fun K hK => ?_)
          have f0 := b_pB.R.cell 0 rfl
          have q0 := b_pB.R.froz 0 rfl
          have f1 := b_pB.R.cell 1 rfl
          have q1 := b_pB.R.froz 1 rfl
          go_simp
          clear f0 q0 f1 q1
          have Py1180 := hHeld.2.out.of_mid (Mid.set y5 pB 0 (.int .i64 1)) b_pB.lo hA (by simp)
          replace b_pD := b_pD.other n_pD_pB.symm 0 (.int .i64 1)
          replace b_gh := b_gh.other n_gh_pB.symm 0 (.int .i64 1)
          replace b_pA := b_pA.other n_pB_pA 0 (.int .i64 1)
          replace b_pB := b_pB.set 0 (.int .i64 1)
          have Py1181 := Py1180.of_mid (Mid.set (y5.setCell ⟨pB, 0, none⟩ (.int .i64 1)) pB 1 (.int .i64 1000)) b_pB.lo hA (by simp)
          replace b_pD := b_pD.other n_pD_pB.symm 1 (.int .i64 1000)
          replace b_gh := b_gh.other n_gh_pB.symm 1 (.int .i64 1000)
          replace b_pA := b_pA.other n_pB_pA 1 (.int .i64 1000)
          replace b_pB := b_pB.set 1 (.int .i64 1000)
          have Py118 := Py1181
          clear Py1180 Py1181
          generalize (y5.setCell ⟨pB, 0, none⟩ (.int .i64 1)).setCell ⟨pB, 1, none⟩ (.int .i64 1000) = y6 at Py118 b_pD b_gh b_pB b_pA ⊢
          try dsimp only
          refine hK.out _ _ ⟨⟨Py118.X.cell 0 rfl, Py118.X.cell 1 rfl, Py118.X.cell 2 rfl, Py118.X.cell 3 rfl, Py118.X.cell 4 rfl, Py118.X.cell 5 rfl, Py118.X.cell 6 rfl, Py118.X.cell 7 rfl, Py118.X.cell 8 rfl, Py118.X.cell 9 rfl, Py118.X.cell 10 rfl, Py118.X.cell 11 rfl, Py118.X.cell 12 rfl⟩, Py118⟩ ?_; clear hK K hHeld; intro hHeld; try simp only [Act.put, List.setIfInBounds_toArray, List.set_cons_zero, List.set_cons_succ]
          refine Tk.R 11 none (.store 79 (.tmp 5) (.tmp 12)) 0 none (fun K hK => ?_)
          have f0 := b_pD.R.cell 0 rfl
          have q0 := b_pD.R.froz 0 rfl
          have f1 := b_pD.R.cell 1 rfl
          have q1 := b_pD.R.froz 1 rfl
          go_simp
          clear f0 q0 f1 q1
          have Py1190 := hHeld.2.out.of_mid (Mid.set y6 pD 0 (.int .i64 0)) b_pD.lo hA (by simp)
          replace b_gh := b_gh.other n_pD_gh 0 (.int .i64 0)
          replace b_pB := b_pB.other n_pD_pB 0 (.int .i64 0)
          replace b_pA := b_pA.other n_pD_pA 0 (.int .i64 0)
          replace b_pD := b_pD.set 0 (.int .i64 0)
          have Py1191 := Py1190.of_mid (Mid.set (y6.setCell ⟨pD, 0, none⟩ (.int .i64 0)) pD 1 (.int .i64 c.now)) b_pD.lo hA (by simp)
          replace b_gh := b_gh.other n_pD_gh 1 (.int .i64 c.now)
          replace b_pB := b_pB.other n_pD_pB 1 (.int .i64 c.now)
          replace b_pA := b_pA.other n_pD_pA 1 (.int .i64 c.now)
          replace b_pD := b_pD.set 1 (.int .i64 c.now)
          have Py119 := Py1191
          clear Py1190 Py1191
          generalize (y6.setCell ⟨pD, 0, none⟩ (.int .i64 0)).setCell ⟨pD, 1, none⟩ (.int .i64 c.now) = y7 at Py119 b_pD b_gh b_pB b_pA ⊢
          try dsimp only
          refine hK.out _ _ ⟨⟨Py119.X.cell 0 rfl, Py119.X.cell 1 rfl, Py119.X.cell 2 rfl, Py119.X.cell 3 rfl, Py119.X.cell 4 rfl, Py119.X.cell 5 rfl, Py119.X.cell 6 rfl, Py119.X.cell 7 rfl, Py119.X.cell 8 rfl, Py119.X.cell 9 rfl, Py119.X.cell 10 rfl, Py119.X.cell 11 rfl, Py119.X.cell 12 rfl⟩, Py119⟩ ?_; clear hK K hHeld; intro hHeld; try simp only [Act.put, List.setIfInBounds_toArray, List.set_cons_zero, List.set_cons_succ]
          refine wpAnyH_done (by kernel_rfl) ?_ _
          refine NoPanic.normal ?_
          have PX := hHeld.2.out
          clear hHeld
          go_wp2_with fail
          go_meet
          case rel => exact ⟨pA, pB, pD, gh, ch, rfl, rfl, rfl, ⟨PX, b_pA, b_pB, b_pD, b_gh⟩⟩
      · go_simp
        have By120 := (Below.refl y1.heap.size y1).alloc (Nat.le_refl _) (.cells #[.slice none 0 0] 26)
        have lty120 := hHeld.2.out.X.lt (by simp)
        have Py120 := hHeld.2.out.below By120
        obtain ⟨pA, h_pA⟩ : ∃ p, p = y1.heap.size := ⟨_, rfl⟩
        have b_pA := Bk.new (w := w) h_pA lty120 [.slice none 0 0] 26
        have n_pD_pA : pD ≠ pA := by rw [h_pA]; exact Nat.ne_of_lt b_pD.lt
        replace b_pD := b_pD.below By120
        rw [← h_pA]
        generalize y1.alloc (.cells #[.slice none 0 0] 26) = y2 at Py120 b_pD b_pA ⊢
        clear By120 h_pA lty120
        try dsimp only
        refine hK.out _ _ ⟨⟨Py120.X.cell 0 rfl, Py120.X.cell 1 rfl, Py120.X.cell 2 rfl, Py120.X.cell 3 rfl, Py120.X.cell 4 rfl, Py120.X.cell 5 rfl, Py120.X.cell 6 rfl, Py120.X.cell 7 rfl, Py120.X.cell 8 rfl, Py120.X.cell 9 rfl, Py120.X.cell 10 rfl, Py120.X.cell 11 rfl, Py120.X.cell 12 rfl⟩, Py120⟩ ?_; clear hK K hHeld; intro hHeld; try simp only [Act.put, List.setIfInBounds_toArray, List.set_cons_zero, List.set_cons_succ]
        refine wpAnyH_ready (rs := [1, 7]) (by kernel_rfl) (by simp) ?_
        refine (AllReadyH.cons (o := ⟨some 8, .call ⟨.value (.func 49), #[.tmp 7], #[35]⟩, 26, _, _, none⟩) rfl (fun K hK => ?_) (AllReadyH.cons (o := ⟨some 4, .alloc 79, 0, _, _, none⟩) rfl (fun K hK => ?_) AllReadyH.nil))
        · go_simp
          refine (i_bareHonest c _ _ _ _ _ _ _ _ _ _ _ _ _ hHeld.2.out.A hb1 HPB.out).mono ?_
          rintro e y3 ⟨⟨gh, ch, rfl, oh⟩, by121⟩
          have Py121 := hHeld.2.out.below by121
          have b_gh : Bk w y3 gh (ints (HN c.bs c.bs.length)) := Bk.own oh (hHeld.2.out.X.lt (by simp))
          have hge : y2.heap.size ≤ gh := oh.data.2.1
          clear oh
          have n_pD_gh : pD ≠ gh := Nat.ne_of_lt (Nat.lt_of_lt_of_le b_pD.lt hge)
          replace b_pD := b_pD.below by121
          have n_pA_gh : pA ≠ gh := Nat.ne_of_lt (Nat.lt_of_lt_of_le b_pA.lt hge)
          replace b_pA := b_pA.below by121
          clear by121 hge
          try dsimp only
          refine hK.out _ _ ⟨⟨Py121.X.cell 0 rfl, Py121.X.cell 1 rfl, Py121.X.cell 2 rfl, Py121.X.cell 3 rfl, Py121.X.cell 4 rfl, Py121.X.cell 5 rfl, Py121.X.cell 6 rfl, Py121.X.cell 7 rfl, Py121.X.cell 8 rfl, Py121.X.cell 9 rfl, Py121.X.cell 10 rfl, Py121.X.cell 11 rfl, Py121.X.cell 12 rfl⟩, Py121⟩ ?_; clear hK K hHeld; intro hHeld; try simp only [Act.put, List.setIfInBounds_toArray, List.set_cons_zero, List.set_cons_succ]
          refine Tk.R 7 (some 4) (.alloc 79) 0 none (fun K hK => ?_)
          go_simp
          have By122 := (Below.refl y3.heap.size y3).alloc (Nat.le_refl _) (.cells #[.int .i64 0, .int .i64 0] 79)
          have lty122 := hHeld.2.out.X.lt (by simp)
          have Py122 := hHeld.2.out.below By122
          obtain ⟨pB, h_pB⟩ : ∃ p, p = y3.heap.size := ⟨_, rfl⟩
          have b_pB := Bk.new (w := w) h_pB lty122 [.int .i64 0, .int .i64 0] 79
          have n_pD_pB : pD ≠ pB := by rw [h_pB]; exact Nat.ne_of_lt b_pD.lt
          replace b_pD := b_pD.below By122
          have n_pA_pB : pA ≠ pB := by rw [h_pB]; exact Nat.ne_of_lt b_pA.lt
          replace b_pA := b_pA.below By122
          have n_gh_pB : gh ≠ pB := by rw [h_pB]; exact Nat.ne_of_lt b_gh.lt
          replace b_gh := b_gh.below By122
          rw [← h_pB]
          generalize y3.alloc (.cells #[.int .i64 0, .int .i64 0] 79) = y4 at Py122 b_pD b_pA b_gh b_pB ⊢
          clear By122 h_pB lty122
          try dsimp only
          refine hK.out _ _ ⟨⟨Py122.X.cell 0 rfl, Py122.X.cell 1 rfl, Py122.X.cell 2 rfl, Py122.X.cell 3 rfl, Py122.X.cell 4 rfl, Py122.X.cell 5 rfl, Py122.X.cell 6 rfl, Py122.X.cell 7 rfl, Py122.X.cell 8 rfl, Py122.X.cell 9 rfl, Py122.X.cell 10 rfl, Py122.X.cell 11 rfl, Py122.X.cell 12 rfl⟩, Py122⟩ ?_; clear hK K hHeld; intro hHeld; try simp only [Act.put, List.setIfInBounds_toArray, List.set_cons_zero, List.set_cons_succ]
          refine Tk.R 9 none (.store 26 (.tmp 3) (.tmp 8)) 0 none (fun K hK => ?_)
          have f0 := b_pA.R.cell 0 rfl
          have q0 := b_pA.R.froz 0 rfl
          go_simp
          clear f0 q0
          have Py1230 := hHeld.2.out.of_mid (Mid.set y4 pA 0 (.slice (some ⟨gh, 0, none⟩) (HN c.bs c.bs.length).length ch)) b_pA.lo hA (by simp)
          replace b_pD := b_pD.other n_pD_pA.symm 0 (.slice (some ⟨gh, 0, none⟩) (HN c.bs c.bs.length).length ch)
          replace b_gh := b_gh.other n_pA_gh 0 (.slice (some ⟨gh, 0, none⟩) (HN c.bs c.bs.length).length ch)
          replace b_pB := b_pB.other n_pA_pB 0 (.slice (some ⟨gh, 0, none⟩) (HN c.bs c.bs.length).length ch)
          replace b_pA := b_pA.set 0 (.slice (some ⟨gh, 0, none⟩) (HN c.bs c.bs.length).length ch)
          have Py123 := Py1230
          clear Py1230
          generalize y4.setCell ⟨pA, 0, none⟩ (.slice (some ⟨gh, 0, none⟩) (HN c.bs c.bs.length).length ch) = y5 at Py123 b_pD b_pA b_gh b_pB ⊢
          try dsimp only
          refine hK.out _ _ ⟨⟨Py123.X.cell 0 rfl, Py123.X.cell 1 rfl, Py123.X.cell 2 rfl, Py123.X.cell 3 rfl, Py123.X.cell 4 rfl, Py123.X.cell 5 rfl, Py123.X.cell 6 rfl, Py123.X.cell 7 rfl, Py123.X.cell 8 rfl, Py123.X.cell 9 rfl, Py123.X.cell 10 rfl, Py123.X.cell 11 rfl, Py123.X.cell 12 rfl⟩, Py123⟩ ?_; clear hK K hHeld; intro hHeld; try simp only [Act.put, List.setIfInBounds_toArray, List.set_cons_zero, List.set_cons_succ]
          refine Tk.R 10 none (.store 79 (.tmp 4) (.tmp 9)) 0 none (fun K hK => ?_)
          have f0 := b_pB.R.cell 0 rfl
          have q0 := b_pB.R.froz 0 rfl
          have f1 := b_pB.R.cell 1 rfl
          have q1 := b_pB.R.froz 1 rfl
          go_simp
          clear f0 q0 f1 q1
          have Py1240 := hHeld.2.out.of_mid (Mid.set y5 pB 0 (.int .i64 1)) b_pB.lo hA (by simp)
          replace b_pD := b_pD.other n_pD_pB.symm 0 (.int .i64 1)
          replace b_pA := b_pA.other n_pA_pB.symm 0 (.int .i64 1)
          replace b_gh := b_gh.other n_gh_pB.symm 0 (.int .i64 1)
          replace b_pB := b_pB.set 0 (.int .i64 1)
          have Py1241 := Py1240.of_mid (Mid.set (y5.setCell ⟨pB, 0, none⟩ (.int .i64 1)) pB 1 (.int .i64 1000)) b_pB.lo hA (by simp)
          replace b_pD := b_pD.other n_pD_pB.symm 1 (.int .i64 1000)
          replace b_pA := b_pA.other n_pA_pB.symm 1 (.int .i64 1000)
          replace b_gh := b_gh.other n_gh_pB.symm 1 (.int .i64 1000)
          replace b_pB := b_pB.set 1 (.int .i64 1000)
          have Py124 := Py1241
          clear Py1240 Py1241
          generalize (y5.setCell ⟨pB, 0, none⟩ (.int .i64 1)).setCell ⟨pB, 1, none⟩ (.int .i64 1000) = y6 at Py124 b_pD b_pA b_gh b_pB ⊢
          try dsimp only
          refine hK.out _ _ ⟨⟨Py124.X.cell 0 rfl, Py124.X.cell 1 rfl, Py124.X.cell 2 rfl, Py124.X.cell 3 rfl, Py124.X.cell 4 rfl, Py124.X.cell 5 rfl, Py124.X.cell 6 rfl, Py124.X.cell 7 rfl, Py124.X.cell 8 rfl, Py124.X.cell 9 rfl, Py124.X.cell 10 rfl, Py124.X.cell 11 rfl, Py124.X.cell 12 rfl⟩, Py124⟩ ?_; clear hK K hHeld; intro hHeld; try simp only [Act.put, List.setIfInBounds_toArray, List.set_cons_zero, List.set_cons_succ]
          refine Tk.R 11 none (.store 79 (.tmp 5) (.tmp 12)) 0 none (fun K hK => ?_)
          have f0 := b_pD.R.cell 0 rfl
          have q0 := b_pD.R.froz 0 rfl
          have f1 := b_pD.R.cell 1 rfl
          have q1 := b_pD.R.froz 1 rfl
          go_simp
          clear f0 q0 f1 q1
          have Py1250 := hHeld.2.out.of_mid (Mid.set y6 pD 0 (.int .i64 0)) b_pD.lo hA (by simp)
          replace b_pA := b_pA.other n_pD_pA 0 (.int .i64 0)
          replace b_gh := b_gh.other n_pD_gh 0 (.int .i64 0)
          replace b_pB := b_pB.other n_pD_pB 0 (.int .i64 0)
          replace b_pD := b_pD.set 0 (.int .i64 0)
          have Py1251 := Py1250.of_mid (Mid.set (y6.setCell ⟨pD, 0, none⟩ (.int .i64 0)) pD 1 (.int .i64 c.now)) b_pD.lo hA (by simp)
          replace b_pA := b_pA.other n_pD_pA 1 (.int .i64 c.now)
          replace b_gh := b_gh.other n_pD_gh 1 (.int .i64 c.now)
          replace b_pB := b_pB.other n_pD_pB 1 (.int .i64 c.now)
          replace b_pD := b_pD.set 1 (.int .i64 c.now)
          have Py125 := Py1251
          clear Py1250 Py1251
          generalize (y6.setCell ⟨pD, 0, none⟩ (.int .i64 0)).setCell ⟨pD, 1, none⟩ (.int .i64 c.now) = y7 at Py125 b_pD b_pA b_gh b_pB ⊢
          try dsimp only
          refine hK.out _ _ ⟨⟨Py125.X.cell 0 rfl, Py125.X.cell 1 rfl, Py125.X.cell 2 rfl, Py125.X.cell 3 rfl, Py125.X.cell 4 rfl, Py125.X.cell 5 rfl, Py125.X.cell 6 rfl, Py125.X.cell 7 rfl, Py125.X.cell 8 rfl, Py125.X.cell 9 rfl, Py125.X.cell 10 rfl, Py125.X.cell 11 rfl, Py125.X.cell 12 rfl⟩, Py125⟩ ?_; clear hK K hHeld; intro hHeld; try simp only [Act.put, List.setIfInBounds_toArray, List.set_cons_zero, List.set_cons_succ]
          refine wpAnyH_done (by kernel_rfl) ?_ _
          refine NoPanic.normal ?_
          have PX := hHeld.2.out
          clear hHeld
          go_wp2_with fail
          go_meet
          case rel => exact ⟨pA, pB, pD, gh, ch, rfl, rfl, rfl, ⟨PX, b_pA, b_pB, b_pD, b_gh⟩⟩
        · go_simp
          have By126 := (Below.refl y2.heap.size y2).alloc (Nat.le_refl _) (.cells #[.int .i64 0, .int .i64 0] 79)
          have lty126 := hHeld.2.out.X.lt (by simp)
          have Py126 := hHeld.2.out.below By126
          obtain ⟨pB, h_pB⟩ : ∃ p, p = y2.heap.size := ⟨_, rfl⟩
          have b_pB := Bk.new (w := w) h_pB lty126 [.int .i64 0, .int .i64 0] 79
          have n_pD_pB : pD ≠ pB := by rw [h_pB]; exact Nat.ne_of_lt b_pD.lt
          replace b_pD := b_pD.below By126
          have n_pA_pB : pA ≠ pB := by rw [h_pB]; exact Nat.ne_of_lt b_pA.lt
          replace b_pA := b_pA.below By126
          rw [← h_pB]
          generalize y2.alloc (.cells #[.int .i64 0, .int .i64 0] 79) = y3 at Py126 b_pD b_pA b_pB ⊢
          clear By126 h_pB lty126
          try dsimp only
          refine hK.out _ _ ⟨⟨Py126.X.cell 0 rfl, Py126.X.cell 1 rfl, Py126.X.cell 2 rfl, Py126.X.cell 3 rfl, Py126.X.cell 4 rfl, Py126.X.cell 5 rfl, Py126.X.cell 6 rfl, Py126.X.cell 7 rfl, Py126.X.cell 8 rfl, Py126.X.cell 9 rfl, Py126.X.cell 10 rfl, Py126.X.cell 11 rfl, Py126.X.cell 12 rfl⟩, Py126⟩ ?_; clear hK K hHeld; intro hHeld; try simp only [Act.put, List.setIfInBounds_toArray, List.set_cons_zero, List.set_cons_succ]
          refine Tk.R 1 (some 8) (.call ⟨.value (.func 49), #[.tmp 7], #[35]⟩) 26 none (fun K hK => ?_)
          go_simp
          refine (i_bareHonest c _ _ _ _ _ _ _ _ _ _ _ _ _ hHeld.2.out.A hb1 HPB.out).mono ?_
          rintro e y4 ⟨⟨gh, ch, rfl, oh⟩, by127⟩
          have Py127 := hHeld.2.out.below by127
          have b_gh : Bk w y4 gh (ints (HN c.bs c.bs.length)) := Bk.own oh (hHeld.2.out.X.lt (by simp))
          have hge : y3.heap.size ≤ gh := oh.data.2.1
          clear oh
          have n_pD_gh : pD ≠ gh := Nat.ne_of_lt (Nat.lt_of_lt_of_le b_pD.lt hge)
          replace b_pD := b_pD.below by127
          have n_pA_gh : pA ≠ gh := Nat.ne_of_lt (Nat.lt_of_lt_of_le b_pA.lt hge)
          replace b_pA := b_pA.below by127
          have n_pB_gh : pB ≠ gh := Nat.ne_of_lt (Nat.lt_of_lt_of_le b_pB.lt hge)
          replace b_pB := b_pB.below by127
          clear by127 hge
          try dsimp only
          refine hK.out _ _ ⟨⟨Py127.X.cell 0 rfl, Py127.X.cell 1 rfl, Py127.X.cell 2 rfl, Py127.X.cell 3 rfl, Py127.X.cell 4 rfl, Py127.X.cell 5 rfl, Py127.X.cell 6 rfl, Py127.X.cell 7 rfl, Py127.X.cell 8 rfl, Py127.X.cell 9 rfl, Py127.X.cell 10 rfl, Py127.X.cell 11 rfl, Py127.X.cell 12 rfl⟩, Py127⟩ ?_; clear hK K hHeld; intro hHeld; try simp only [Act.put, List.setIfInBounds_toArray, List.set_cons_zero, List.set_cons_succ]
          refine Tk.R 9 none (.store 26 (.tmp 3) (.tmp 8)) 0 none (fun K hK => ?_)
          have f0 := b_pA.R.cell 0 rfl
          have q0 := b_pA.R.froz 0 rfl
          go_simp
          clear f0 q0
          have Py1280 := hHeld.2.out.of_mid (Mid.set y4 pA 0 (.slice (some ⟨gh, 0, none⟩) (HN c.bs c.bs.length).length ch)) b_pA.lo hA (by simp)
          replace b_pD := b_pD.other n_pD_pA.symm 0 (.slice (some ⟨gh, 0, none⟩) (HN c.bs c.bs.length).length ch)
          replace b_pB := b_pB.other n_pA_pB 0 (.slice (some ⟨gh, 0, none⟩) (HN c.bs c.bs.length).length ch)
          replace b_gh := b_gh.other n_pA_gh 0 (.slice (some ⟨gh, 0, none⟩) (HN c.bs c.bs.length).length ch)
          replace b_pA := b_pA.set 0 (.slice (some ⟨gh, 0, none⟩) (HN c.bs c.bs.length).length ch)
          have Py128 := Py1280
          clear Py1280
          generalize y4.setCell ⟨pA, 0, none⟩ (.slice (some ⟨gh, 0, none⟩) (HN c.bs c.bs.length).length ch) = y5 at Py128 b_pD b_pA b_pB b_gh ⊢
          try dsimp only
          refine hK.out _ _ ⟨⟨Py128.X.cell 0 rfl, Py128.X.cell 1 rfl, Py128.X.cell 2 rfl, Py128.X.cell 3 rfl, Py128.X.cell 4 rfl, Py128.X.cell 5 rfl, Py128.X.cell 6 rfl, Py128.X.cell 7 rfl, Py128.X.cell 8 rfl, Py128.X.cell 9 rfl, Py128.X.cell 10 rfl, Py128.X.cell 11 rfl, Py128.X.cell 12 rfl⟩, Py128⟩ ?_; clear hK K hHeld; intro hHeld; try simp only [Act.put, List.setIfInBounds_toArray, List.set_cons_zero, List.set_cons_succ]
          refine Tk.R 10 none (.store 79 (.tmp 4) (.tmp 9)) 0 none (fun K hK => ?_)
          have f0 := b_pB.R.cell 0 rfl
          have q0 := b_pB.R.froz 0 rfl
          have f1 := b_pB.R.cell 1 rfl
          have q1 := b_pB.R.froz 1 rfl
          go_simp
          clear f0 q0 f1 q1
          have Py1290 := hHeld.2.out.of_mid (Mid.set y5 pB 0 (.int .i64 1)) b_pB.lo hA (by simp)
          replace b_pD := b_pD.other n_pD_pB.symm 0 (.int .i64 1)
          replace b_pA := b_pA.other n_pA_pB.symm 0 (.int .i64 1)
          replace b_gh := b_gh.other n_pB_gh 0 (.int .i64 1)
          replace b_pB := b_pB.set 0 (.int .i64 1)
          have Py1291 := Py1290.of_mid (Mid.set (y5.setCell ⟨pB, 0, none⟩ (.int .i64 1)) pB 1 (.int .i64 1000)) b_pB.lo hA (by simp)
          replace b_pD := b_pD.other n_pD_pB.symm 1 (.int .i64 1000)
          replace b_pA := b_pA.other n_pA_pB.symm 1 (.int .i64 1000)
          replace b_gh := b_gh.other n_pB_gh 1 (.int .i64 1000)
          replace b_pB := b_pB.set 1 (.int .i64 1000)
          have Py129 := Py1291
          clear Py1290 Py1291
          generalize (y5.setCell ⟨pB, 0, none⟩ (.int .i64 1)).setCell ⟨pB, 1, none⟩ (.int .i64 1000) = y6 at Py129 b_pD b_pA b_pB b_gh ⊢
          try dsimp only
          refine hK.out _ _ ⟨⟨Py129.X.cell 0 rfl, Py129.X.cell 1 rfl, Py129.X.cell 2 rfl, Py129.X.cell 3 rfl, Py129.X.cell 4 rfl, Py129.X.cell 5 rfl, Py129.X.cell 6 rfl, Py129.X.cell 7 rfl, Py129.X.cell 8 rfl, Py129.X.cell 9 rfl, Py129.X.cell 10 rfl, Py129.X.cell 11 rfl, Py129.X.cell 12 rfl⟩, Py129⟩ ?_; clear hK K hHeld; intro hHeld; try simp only [Act.put, List.setIfInBounds_toArray, List.set_cons_zero, List.set_cons_succ]
          refine Tk.R 11 none (.store 79 (.tmp 5) (.tmp 12)) 0 none (fun K hK => ?_)
          have f0 := b_pD.R.cell 0 rfl
          have q0 := b_pD.R.froz 0 rfl
          have f1 := b_pD.R.cell 1 rfl
          have q1 := b_pD.R.froz 1 rfl
          go_simp
          clear f0 q0 f1 q1
          have Py1300 := hHeld.2.out.of_mid (Mid.set y6 pD 0 (.int .i64 0)) b_pD.lo hA (by simp)
          replace b_pA := b_pA.other n_pD_pA 0 (.int .i64 0)
          replace b_pB := b_pB.other n_pD_pB 0 (.int .i64 0)
          replace b_gh := b_gh.other n_pD_gh 0 (.int .i64 0)
          replace b_pD := b_pD.set 0 (.int .i64 0)
          have Py1301 := Py1300.of_mid (Mid.set (y6.setCell ⟨pD, 0, none⟩ (.int .i64 0)) pD 1 (.int .i64 c.now)) b_pD.lo hA (by simp)
          replace b_pA := b_pA.other n_pD_pA 1 (.int .i64 c.now)
          replace b_pB := b_pB.other n_pD_pB 1 (.int .i64 c.now)
          replace b_gh := b_gh.other n_pD_gh 1 (.int .i64 c.now)
          replace b_pD := b_pD.set 1 (.int .i64 c.now)
          have Py130 := Py1301
          clear Py1300 Py1301
          generalize (y6.setCell ⟨pD, 0, none⟩ (.int .i64 0)).setCell ⟨pD, 1, none⟩ (.int .i64 c.now) = y7 at Py130 b_pD b_pA b_pB b_gh ⊢
          try dsimp only
          refine hK.out _ _ ⟨⟨Py130.X.cell 0 rfl, Py130.X.cell 1 rfl, Py130.X.cell 2 rfl, Py130.X.cell 3 rfl, Py130.X.cell 4 rfl, Py130.X.cell 5 rfl, Py130.X.cell 6 rfl, Py130.X.cell 7 rfl, Py130.X.cell 8 rfl, Py130.X.cell 9 rfl, Py130.X.cell 10 rfl, Py130.X.cell 11 rfl, Py130.X.cell 12 rfl⟩, Py130⟩ ?_; clear hK K hHeld; intro hHeld; try simp only [Act.put, List.setIfInBounds_toArray, List.set_cons_zero, List.set_cons_succ]
          refine wpAnyH_done (by kernel_rfl) ?_ _
          refine NoPanic.normal ?_
          have PX := hHeld.2.out
          clear hHeld
          go_wp2_with fail
          go_meet
          case rel => exact ⟨pA, pB, pD, gh, ch, rfl, rfl, rfl, ⟨PX, b_pA, b_pB, b_pD, b_gh⟩⟩
      · go_simp
        have By131 := (Below.refl y1.heap.size y1).alloc (Nat.le_refl _) (.cells #[.int .i64 0, .int .i64 0] 79)
        have lty131 := hHeld.2.out.X.lt (by simp)
        have Py131 := hHeld.2.out.below By131
        obtain ⟨pB, h_pB⟩ : ∃ p, p = y1.heap.size := ⟨_, rfl⟩
        have b_pB := Bk.new (w := w) h_pB lty131 [.int .i64 0, .int .i64 0] 79
        have n_pD_pB : pD ≠ pB := by rw [h_pB]; exact Nat.ne_of_lt b_pD.lt
        replace b_pD := b_pD.below By131
        rw [← h_pB]
        generalize y1.alloc (.cells #[.int .i64 0, .int .i64 0] 79) = y2 at Py131 b_pD b_pB ⊢
        clear By131 h_pB lty131
        try dsimp only
        refine hK.out _ _ ⟨⟨Py131.X.cell 0 rfl, Py131.X.cell 1 rfl, Py131.X.cell 2 rfl, Py131.X.cell 3 rfl, Py131.X.cell 4 rfl, Py131.X.cell 5 rfl, Py131.X.cell 6 rfl, Py131.X.cell 7 rfl, Py131.X.cell 8 rfl, Py131.X.cell 9 rfl, Py131.X.cell 10 rfl, Py131.X.cell 11 rfl, Py131.X.cell 12 rfl⟩, Py131⟩ ?_; clear hK K hHeld; intro hHeld; try simp only [Act.put, List.setIfInBounds_toArray, List.set_cons_zero, List.set_cons_succ]
        refine wpAnyH_ready (rs := [1, 6]) (by kernel_rfl) (by simp) ?_
        refine (AllReadyH.cons (o := ⟨some 8, .call ⟨.value (.func 49), #[.tmp 7], #[35]⟩, 26, _, _, none⟩) rfl (fun K hK => ?_) (AllReadyH.cons (o := ⟨some 3, .alloc 26, 0, _, _, none⟩) rfl (fun K hK => ?_) AllReadyH.nil))
        · go_simp
          refine (i_bareHonest c _ _ _ _ _ _ _ _ _ _ _ _ _ hHeld.2.out.A hb1 HPB.out).mono ?_
          rintro e y3 ⟨⟨gh, ch, rfl, oh⟩, by132⟩
          have Py132 := hHeld.2.out.below by132
          have b_gh : Bk w y3 gh (ints (HN c.bs c.bs.length)) := Bk.own oh (hHeld.2.out.X.lt (by simp))
          have hge : y2.heap.size ≤ gh := oh.data.2.1
          clear oh
          have n_pD_gh : pD ≠ gh := Nat.ne_of_lt (Nat.lt_of_lt_of_le b_pD.lt hge)
          replace b_pD := b_pD.below by132
          have n_pB_gh : pB ≠ gh := Nat.ne_of_lt (Nat.lt_of_lt_of_le b_pB.lt hge)
          replace b_pB := b_pB.below by132
          clear by132 hge
          try dsimp only
          refine hK.out _ _ ⟨⟨Py132.X.cell 0 rfl, Py132.X.cell 1 rfl, Py132.X.cell 2 rfl, Py132.X.cell 3 rfl, Py132.X.cell 4 rfl, Py132.X.cell 5 rfl, Py132.X.cell 6 rfl, Py132.X.cell 7 rfl, Py132.X.cell 8 rfl, Py132.X.cell 9 rfl, Py132.X.cell 10 rfl, Py132.X.cell 11 rfl, Py132.X.cell 12 rfl⟩, Py132⟩ ?_; clear hK K hHeld; intro hHeld; try simp only [Act.put, List.setIfInBounds_toArray, List.set_cons_zero, List.set_cons_succ]
          refine Tk.R 6 (some 3) (.alloc 26) 0 none (fun K hK => ?_)
          go_simp
          have By133 := (Below.refl y3.heap.size y3).alloc (Nat.le_refl _) (.cells #[.slice none 0 0] 26)
          have lty133 := hHeld.2.out.X.lt (by simp)
          have Py133 := hHeld.2.out.below By133
          obtain ⟨pA, h_pA⟩ : ∃ p, p = y3.heap.size := ⟨_, rfl⟩
          have b_pA := Bk.new (w := w) h_pA lty133 [.slice none 0 0] 26
          have n_pD_pA : pD ≠ pA := by rw [h_pA]; exact Nat.ne_of_lt b_pD.lt
          replace b_pD := b_pD.below By133
          have n_pB_pA : pB ≠ pA := by rw [h_pA]; exact Nat.ne_of_lt b_pB.lt
          replace b_pB := b_pB.below By133
          have n_gh_pA : gh ≠ pA := by rw [h_pA]; exact Nat.ne_of_lt b_gh.lt
          replace b_gh := b_gh.below By133
          rw [← h_pA]
          generalize y3.alloc (.cells #[.slice none 0 0] 26) = y4 at Py133 b_pD b_pB b_gh b_pA ⊢
          clear By133 h_pA lty133
          try dsimp only
          refine hK.out _ _ ⟨⟨Py133.X.cell 0 rfl, Py133.X.cell 1 rfl, Py133.X.cell 2 rfl, Py133.X.cell 3 rfl, Py133.X.cell 4 rfl, Py133.X.cell 5 rfl, Py133.X.cell 6 rfl, Py133.X.cell 7 rfl, Py133.X.cell 8 rfl, Py133.X.cell 9 rfl, Py133.X.cell 10 rfl, Py133.X.cell 11 rfl, Py133.X.cell 12 rfl⟩, Py133⟩ ?_; clear hK K hHeld; intro hHeld; try simp only [Act.put, List.setIfInBounds_toArray, List.set_cons_zero, List.set_cons_succ]
          refine Tk.R 9 none (.store 26 (.tmp 3) (.tmp 8)) 0 none (fun K hK => ?_)
          have f0 := b_pA.R.cell 0 rfl
          have q0 := b_pA.R.froz 0 rfl
          go_simp
          clear f0 q0
          have Py1340 := hHeld.2.out.of_mid (Mid.set y4 pA 0 (.slice (some ⟨gh, 0, none⟩) (HN c.bs c.bs.length).length ch)) b_pA.lo hA (by simp)
          replace b_pD := b_pD.other n_pD_pA.symm 0 (.slice (some ⟨gh, 0, none⟩) (HN c.bs c.bs.length).length ch)
          replace b_pB := b_pB.other n_pB_pA.symm 0 (.slice (some ⟨gh, 0, none⟩) (HN c.bs c.bs.length).length ch)
          replace b_gh := b_gh.other n_gh_pA.symm 0 (.slice (some ⟨gh, 0, none⟩) (HN c.bs c.bs.length).length ch)
          replace b_pA := b_pA.set 0 (.slice (some ⟨gh, 0, none⟩) (HN c.bs c.bs.length).length ch)
          have Py134 := Py1340
          clear Py1340
          generalize y4.setCell ⟨pA, 0, none⟩ (.slice (some ⟨gh, 0, none⟩) (HN c.bs c.bs.length).length ch) = y5 at Py134 b_pD b_pB b_gh b_pA ⊢
          try dsimp only
          refine hK.out _ _ ⟨⟨Py134.X.cell 0 rfl, Py134.X.cell 1 rfl, Py134.X.cell 2 rfl, Py134.X.cell 3 rfl, Py134.X.cell 4 rfl, Py134.X.cell 5 rfl, Py134.X.cell 6 rfl, Py134.X.cell 7 rfl, Py134.X.cell 8 rfl, Py134.X.cell 9 rfl, Py134.X.cell 10 rfl, Py134.X.cell 11 rfl, Py134.X.cell 12 rfl⟩, Py134⟩ ?_; clear hK K hHeld; intro hHeld; try simp only [Act.put, List.setIfInBounds_toArray, List.set_cons_zero, List.set_cons_succ]
          refine Tk.R 10 none (.store 79 (.tmp 4) (.tmp 9)) 0 none (fun K hK => ?_)
          have f0 := b_pB.R.cell 0 rfl
          have q0 := b_pB.R.froz 0 rfl
          have f1 := b_pB.R.cell 1 rfl
          have q1 := b_pB.R.froz 1 rfl
          go_simp
          clear f0 q0 f1 q1
          have Py1350 := hHeld.2.out.of_mid (Mid.set y5 pB 0 (.int .i64 1)) b_pB.lo hA (by simp)
          replace b_pD := b_pD.other n_pD_pB.symm 0 (.int .i64 1)
          replace b_gh := b_gh.other n_pB_gh 0 (.int .i64 1)
          replace b_pA := b_pA.other n_pB_pA 0 (.int .i64 1)
          replace b_pB := b_pB.set 0 (.int .i64 1)
          have Py1351 := Py1350.of_mid (Mid.set (y5.setCell ⟨pB, 0, none⟩ (.int .i64 1)) pB 1 (.int .i64 1000)) b_pB.lo hA (by simp)
          replace b_pD := b_pD.other n_pD_pB.symm 1 (.int .i64 1000)
          replace b_gh := b_gh.other n_pB_gh 1 (.int .i64 1000)
          replace b_pA := b_pA.other n_pB_pA 1 (.int .i64 1000)
          replace b_pB := b_pB.set 1 (.int .i64 1000)
          have Py135 := Py1351
          clear Py1350 Py1351
          generalize (y5.setCell ⟨pB, 0, none⟩ (.int .i64 1)).setCell ⟨pB, 1, none⟩ (.int .i64 1000) = y6 at Py135 b_pD b_pB b_gh b_pA ⊢
          try dsimp only
          refine hK.out _ _ ⟨⟨Py135.X.cell 0 rfl, Py135.X.cell 1 rfl, Py135.X.cell 2 rfl, Py135.X.cell 3 rfl, Py135.X.cell 4 rfl, Py135.X.cell 5 rfl, Py135.X.cell 6 rfl, Py135.X.cell 7 rfl, Py135.X.cell 8 rfl, Py135.X.cell 9 rfl, Py135.X.cell 10 rfl, Py135.X.cell 11 rfl, Py135.X.cell 12 rfl⟩, Py135⟩ ?_; clear hK K hHeld; intro hHeld; try simp only [Act.put, List.setIfInBounds_toArray, List.set_cons_zero, List.set_cons_succ]
          refine Tk.R 11 none (.store 79 (.tmp 5) (.tmp 12)) 0 none (fun K hK => ?_)
          have f0 := b_pD.R.cell 0 rfl
          have q0 := b_pD.R.froz 0 rfl
          have f1 := b_pD.R.cell 1 rfl
          have q1 := b_pD.R.froz 1 rfl
          go_simp
          clear f0 q0 f1 q1
          have Py1360 := hHeld.2.out.of_mid (Mid.set y6 pD 0 (.int .i64 0)) b_pD.lo hA (by simp)
          replace b_pB := b_pB.other n_pD_pB 0 (.int .i64 0)
          replace b_gh := b_gh.other n_pD_gh 0 (.int .i64 0)
          replace b_pA := b_pA.other n_pD_pA 0 (.int .i64 0)
          replace b_pD := b_pD.set 0 (.int .i64 0)
          have Py1361 := Py1360.of_mid (Mid.set (y6.setCell ⟨pD, 0, none⟩ (.int .i64 0)) pD 1 (.int .i64 c.now)) b_pD.lo hA (by simp)
          replace b_pB := b_pB.other n_pD_pB 1 (.int .i64 c.now)
          replace b_gh := b_gh.other n_pD_gh 1 (.int .i64 c.now)
          replace b_pA := b_pA.other n_pD_pA 1 (.int .i64 c.now)
          replace b_pD := b_pD.set 1 (.int .i64 c.now)
          have Py136 := Py1361
          clear Py1360 Py1361
          generalize (y6.setCell ⟨pD, 0, none⟩ (.int .i64 0)).setCell ⟨pD, 1, none⟩ (.int .i64 c.now) = y7 at Py136 b_pD b_pB b_gh b_pA ⊢
          try dsimp only
          refine hK.out _ _ ⟨⟨Py136.X.cell 0 rfl, Py136.X.cell 1 rfl, Py136.X.cell 2 rfl, Py136.X.cell 3 rfl, Py136.X.cell 4 rfl, Py136.X.cell 5 rfl, Py136.X.cell 6 rfl, Py136.X.cell 7 rfl, Py136.X.cell 8 rfl, Py136.X.cell 9 rfl, Py136.X.cell 10 rfl, Py136.X.cell 11 rfl, Py136.X.cell 12 rfl⟩, Py136⟩ ?_; clear hK K hHeld; intro hHeld; try simp only [Act.put, List.setIfInBounds_toArray, List.set_cons_zero, List.set_cons_succ]
          refine wpAnyH_done (by kernel_rfl) ?_ _
          refine NoPanic.normal ?_
          have PX := hHeld.2.out
          clear hHeld
          go_wp2_with fail
          go_meet
          case rel => exact ⟨pA, pB, pD, gh, ch, rfl, rfl, rfl, ⟨PX, b_pA, b_pB, b_pD, b_gh⟩⟩
        · go_simp
          have By137 := (Below.refl y2.heap.size y2).alloc (Nat.le_refl _) (.cells #[.slice none 0 0] 26)
          have lty137 := hHeld.2.out.X.lt (by simp)
          have Py137 := hHeld.2.out.below By137
          obtain ⟨pA, h_pA⟩ : ∃ p, p = y2.heap.size := ⟨_, rfl⟩
          have b_pA := Bk.new (w := w) h_pA lty137 [.slice none 0 0] 26
          have n_pD_pA : pD ≠ pA := by rw [h_pA]; exact Nat.ne_of_lt b_pD.lt
          replace b_pD := b_pD.below By137
          have n_pB_pA : pB ≠ pA := by rw [h_pA]; exact Nat.ne_of_lt b_pB.lt
          replace b_pB := b_pB.below By137
          rw [← h_pA]
          generalize y2.alloc (.cells #[.slice none 0 0] 26) = y3 at Py137 b_pD b_pB b_pA ⊢
          clear By137 h_pA lty137
          try dsimp only
          refine hK.out _ _ ⟨⟨Py137.X.cell 0 rfl, Py137.X.cell 1 rfl, Py137.X.cell 2 rfl, Py137.X.cell 3 rfl, Py137.X.cell 4 rfl, Py137.X.cell 5 rfl, Py137.X.cell 6 rfl, Py137.X.cell 7 rfl, Py137.X.cell 8 rfl, Py137.X.cell 9 rfl, Py137.X.cell 10 rfl, Py137.X.cell 11 rfl, Py137.X.cell 12 rfl⟩, Py137⟩ ?_; clear hK K hHeld; intro hHeld; try simp only [Act.put, List.setIfInBounds_toArray, List.set_cons_zero, List.set_cons_succ]
          refine Tk.R 1 (some 8) (.call ⟨.value (.func 49), #[.tmp 7], #[35]⟩) 26 none (fun K hK => ?_)
          go_simp
          refine (i_bareHonest c _ _ _ _ _ _ _ _ _ _ _ _ _ hHeld.2.out.A hb1 HPB.out).mono ?_
          rintro e y4 ⟨⟨gh, ch, rfl, oh⟩, by138⟩
          have Py138 := hHeld.2.out.below by138
          have b_gh : Bk w y4 gh (ints (HN c.bs c.bs.length)) := Bk.own oh (hHeld.2.out.X.lt (by simp))
          have hge : y3.heap.size ≤ gh := oh.data.2.1
          clear oh
          have n_pD_gh : pD ≠ gh := Nat.ne_of_lt (Nat.lt_of_lt_of_le b_pD.lt hge)
          replace b_pD := b_pD.below by138
          have n_pB_gh : pB ≠ gh := Nat.ne_of_lt (Nat.lt_of_lt_of_le b_pB.lt hge)
          replace b_pB := b_pB.below by138
          have n_pA_gh : pA ≠ gh := Nat.ne_of_lt (Nat.lt_of_lt_of_le b_pA.lt hge)
          replace b_pA := b_pA.below by138
          clear by138 hge
          try dsimp only
          refine hK.out _ _ ⟨⟨Py138.X.cell 0 rfl, Py138.X.cell 1 rfl, Py138.X.cell 2 rfl, Py138.X.cell 3 rfl, Py138.X.cell 4 rfl, Py138.X.cell 5 rfl, Py138.X.cell 6 rfl, Py138.X.cell 7 rfl, Py138.X.cell 8 rfl, Py138.X.cell 9 rfl, Py138.X.cell 10 rfl, Py138.X.cell 11 rfl, Py138.X.cell 12 rfl⟩, Py138⟩ ?_; clear hK K hHeld; intro hHeld; try simp only [Act.put, List.setIfInBounds_toArray, List.set_cons_zero, List.set_cons_succ]
          refine Tk.R 9 none (.store 26 (.tmp 3) (.tmp 8)) 0 none (fun K hK => ?_)
          have f0 := b_pA.R.cell 0 rfl
          have q0 := b_pA.R.froz 0 rfl
          go_simp
          clear f0 q0
          have Py1390 := hHeld.2.out.of_mid (Mid.set y4 pA 0 (.slice (some ⟨gh, 0, none⟩) (HN c.bs c.bs.length).length ch)) b_pA.lo hA (by simp)
          replace b_pD := b_pD.other n_pD_pA.symm 0 (.slice (some ⟨gh, 0, none⟩) (HN c.bs c.bs.length).length ch)
          replace b_pB := b_pB.other n_pB_pA.symm 0 (.slice (some ⟨gh, 0, none⟩) (HN c.bs c.bs.length).length ch)
          replace b_gh := b_gh.other n_pA_gh 0 (.slice (some ⟨gh, 0, none⟩) (HN c.bs c.bs.length).length ch)
          replace b_pA := b_pA.set 0 (.slice (some ⟨gh, 0, none⟩) (HN c.bs c.bs.length).length ch)
          have Py139 := Py1390
          clear Py1390
          generalize y4.setCell ⟨pA, 0, none⟩ (.slice (some ⟨gh, 0, none⟩) (HN c.bs c.bs.length).length ch) = y5 at Py139 b_pD b_pB b_pA b_gh ⊢
          try dsimp only
          refine hK.out _ _ ⟨⟨Py139.X.cell 0 rfl, Py139.X.cell 1 rfl, Py139.X.cell 2 rfl, Py139.X.cell 3 rfl, Py139.X.cell 4 rfl, Py139.X.cell 5 rfl, Py139.X.cell 6 rfl, Py139.X.cell 7 rfl, Py139.X.cell 8 rfl, Py139.X.cell 9 rfl, Py139.X.cell 10 rfl, Py139.X.cell 11 rfl, Py139.X.cell 12 rfl⟩, Py139⟩ ?_; clear hK K hHeld; intro hHeld; try simp only [Act.put, List.setIfInBounds_toArray, List.set_cons_zero, List.set_cons_succ]
          refine Tk.R 10 none (.store 79 (.tmp 4) (.tmp 9)) 0 none (fun K hK => ?_)
          have f0 := b_pB.R.cell 0 rfl
          have q0 := b_pB.R.froz 0 rfl
          have f1 := b_pB.R.cell 1 rfl
          have q1 := b_pB.R.froz 1 rfl
          go_simp
          clear f0 q0 f1 q1
          have Py1400 := hHeld.2.out.of_mid (Mid.set y5 pB 0 (.int .i64 1)) b_pB.lo hA (by simp)
          replace b_pD := b_pD.other n_pD_pB.symm 0 (.int .i64 1)
          replace b_pA := b_pA.other n_pB_pA 0 (.int .i64 1)
          replace b_gh := b_gh.other n_pB_gh 0 (.int .i64 1)
          replace b_pB := b_pB.set 0 (.int .i64 1)
          have Py1401 := Py1400.of_mid (Mid.set (y5.setCell ⟨pB, 0, none⟩ (.int .i64 1)) pB 1 (.int .i64 1000)) b_pB.lo hA (by simp)
          replace b_pD := b_pD.other n_pD_pB.symm 1 (.int .i64 1000)
          replace b_pA := b_pA.other n_pB_pA 1 (.int .i64 1000)
          replace b_gh := b_gh.other n_pB_gh 1 (.int .i64 1000)
          replace b_pB := b_pB.set 1 (.int .i64 1000)
          have Py140 := Py1401
          clear Py1400 Py1401
          generalize (y5.setCell ⟨pB, 0, none⟩ (.int .i64 1)).setCell ⟨pB, 1, none⟩ (.int .i64 1000) = y6 at Py140 b_pD b_pB b_pA b_gh ⊢
          try dsimp only
          refine hK.out _ _ ⟨⟨Py140.X.cell 0 rfl, Py140.X.cell 1 rfl, Py140.X.cell 2 rfl, Py140.X.cell 3 rfl, Py140.X.cell 4 rfl, Py140.X.cell 5 rfl, Py140.X.cell 6 rfl, Py140.X.cell 7 rfl, Py140.X.cell 8 rfl, Py140.X.cell 9 rfl, Py140.X.cell 10 rfl, Py140.X.cell 11 rfl, Py140.X.cell 12 rfl⟩, Py140⟩ ?_; clear hK K hHeld; intro hHeld; try simp only [Act.put, List.setIfInBounds_toArray, List.set_cons_zero, List.set_cons_succ]
          refine Tk.R 11 none (.store 79 (.tmp 5) (.tmp 12)) 0 none (fun K hK => ?_)
          have f0 := b_pD.R.cell 0 rfl
          have q0 := b_pD.R.froz 0 rfl
          have f1 := b_pD.R.cell 1 rfl
          have q1 := b_pD.R.froz 1 rfl
          go_simp
          clear f0 q0 f1 q1
          have Py1410 := hHeld.2.out.of_mid (Mid.set y6 pD 0 (.int .i64 0)) b_pD.lo hA (by simp)
          replace b_pB := b_pB.other n_pD_pB 0 (.int .i64 0)
          replace b_pA := b_pA.other n_pD_pA 0 (.int .i64 0)
          replace b_gh := b_gh.other n_pD_gh 0 (.int .i64 0)
          replace b_pD := b_pD.set 0 (.int .i64 0)
          have Py1411 := Py1410.of_mid (Mid.set (y6.setCell ⟨pD, 0, none⟩ (.int .i64 0)) pD 1 (.int .i64 c.now)) b_pD.lo hA (by simp)
          replace b_pB := b_pB.other n_pD_pB 1 (.int .i64 c.now)
          replace b_pA := b_pA.other n_pD_pA 1 (.int .i64 c.now)
          replace b_gh := b_gh.other n_pD_gh 1 (.int .i64 c.now)
          replace b_pD := b_pD.set 1 (.int .i64 c.now)
          have Py141 := Py1411
          clear Py1410 Py1411
          generalize (y6.setCell ⟨pD, 0, none⟩ (.int .i64 0)).setCell ⟨pD, 1, none⟩ (.int .i64 c.now) = y7 at Py141 b_pD b_pB b_pA b_gh ⊢
          try dsimp only
          refine hK.out _ _ ⟨⟨Py141.X.cell 0 rfl, Py141.X.cell 1 rfl, Py141.X.cell 2 rfl, Py141.X.cell 3 rfl, Py141.X.cell 4 rfl, Py141.X.cell 5 rfl, Py141.X.cell 6 rfl, Py141.X.cell 7 rfl, Py141.X.cell 8 rfl, Py141.X.cell 9 rfl, Py141.X.cell 10 rfl, Py141.X.cell 11 rfl, Py141.X.cell 12 rfl⟩, Py141⟩ ?_; clear hK K hHeld; intro hHeld; try simp only [Act.put, List.setIfInBounds_toArray, List.set_cons_zero, List.set_cons_succ]
          refine wpAnyH_done (by kernel_rfl) ?_ _
          refine NoPanic.normal ?_
          have PX := hHeld.2.out
          clear hHeld
          go_wp2_with fail
          go_meet
          case rel => exact ⟨pA, pB, pD, gh, ch, rfl, rfl, rfl, ⟨PX, b_pA, b_pB, b_pD, b_gh⟩⟩
  case rest =>
    obtain ⟨pA, pB, pD, gh, ch, rfl, rfl, rfl, HP⟩ := hcut
    obtain ⟨PX, bA, bB, bD, bC⟩ := HP.out
    clear HP PB
    have HE : Hid (HEFacts pA pB pD aF c.fs.length (fun k => !FK c (es c.fs k)) wc) := fun k hk => by
      obtain ⟨b, off, rfl, hc⟩ := row3_he hA.F hk
      refine ⟨b, off, (es c.fs k).1, (es c.fs k).2.1, (es c.fs k).2.2, rfl, fun w' B' => hc w' (PX.below B').B, fun w' B' => ?_⟩
      have t := factF pA pB pD 1 1000 0 c.now (some ⟨gh, 0, none⟩) (HN c.bs c.bs.length).length ch (HN c.bs c.bs.length) (es c.fs k).1 (es c.fs k).2.1 (es c.fs k).2.2 w' ((bB.R.below B').cell 0 rfl) ((bB.R.below B').cell 1 rfl) ((bD.R.below B').cell 0 rfl) ((bD.R.below B').cell 1 rfl) ((bA.R.below B').cell 0 rfl) (bC.below B').row (by have := hn_len c.bs c.bs.length; omega)
      rw [fk_or (c := c) (es c.fs k)] at t
      exact t
    by_cases h3 : c.fs.length ≤ 3000
    · have d3 : decide ((c.fs.length : Int) ≤ 3000) = true := decide_eq_true (by omega)
      have HV : Hid (PF c = !AN (fun k => !FK c (es c.fs k)) c.fs.length) := pf_an h3
      have H3 := hid h3
      clear h3
      have k12 := PX.X.cell 12 rfl
      go_wp2_with fail
      clear k12
      refine (containsFacts pA pB pD aF c.fs.length cF (fun k => !FK c (es c.fs k)) _ (by have := H3.out; omega) HE.out).mono ?_
      rintro e w9 ⟨rfl, b9⟩
      go_wp2
      go_ret
      exact ⟨retb HV.out.symm, PX.B.trans (b9.mono PX.B.size)⟩
    · have d3 : decide ((c.fs.length : Int) ≤ 3000) = false := decide_eq_false (by omega)
      have HV : Hid (PF c = false) := pf_no h3
      clear h3 HE
      have k12 := PX.X.cell 12 rfl
      go_wp2
      go_ret
      exact ⟨retb HV.out.symm, PX.B⟩

end Go.Proofs.YtimakfokgcnklaaGreat.Mi
