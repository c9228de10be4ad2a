/-
  The nodes of a court, right or not (impl.peersOk).
-/
import Derived.Test.YtimakfokgcnklaaGreatPm
import Derived.Test.YtimakfokgcnklaaGreatPi
import Derived.Test.YtimakfokgcnklaaGreatTk
namespace Go.Proofs.YtimakfokgcnklaaGreat.Mi
open Go.ChangeShapes Go.WideShapes Go.ChangeAt Go.RowKit
open Ls (el Row)
open Rm (Room)
open Rd (Flags)
open Ow (ints Own)
open Sb (S3 es es_ext fl sl Row3 SHas)
open Ns
open Sl (KO lk_yes lk_no)
open Sp (LK retb reti)
open Cd
set_option linter.unusedVariables false
set_option linter.unusedSimpArgs false

theorem meth_ok_l (x y : Int) (z : Bool) (a : Option Addr) (n c : Nat) (w : World) : (method 313 121 (.agg #[.int .i64 x, .int .i64 y, .bool z, .slice a n c]) "loop.example/g00708/impl.ok").run Tryz.prog w = .ok (179, .agg #[.int .i64 x, .int .i64 y, .bool z, .slice a n c]) w := by kernel_rfl
theorem meth_ok_h (x y : Int) (z : Bool) (a : Option Addr) (n c : Nat) (w : World) : (method 313 120 (.agg #[.int .i64 x, .int .i64 y, .bool z, .slice a n c]) "loop.example/g00708/impl.ok").run Tryz.prog w = .ok (179, .agg #[.int .i64 x, .int .i64 y, .bool z, .slice a n c]) w := by kernel_rfl
theorem meth_shows_l (x y : Int) (z : Bool) (a : Option Addr) (n c : Nat) (w : World) : (method 313 121 (.agg #[.int .i64 x, .int .i64 y, .bool z, .slice a n c]) "loop.example/g00708/impl.shows").run Tryz.prog w = .ok (180, .agg #[.int .i64 x, .int .i64 y, .bool z, .slice a n c]) w := by kernel_rfl
theorem meth_shows_h (x y : Int) (z : Bool) (a : Option Addr) (n c : Nat) (w : World) : (method 313 120 (.agg #[.int .i64 x, .int .i64 y, .bool z, .slice a n c]) "loop.example/g00708/impl.shows").run Tryz.prog w = .ok (180, .agg #[.int .i64 x, .int .i64 y, .bool z, .slice a n c]) w := by kernel_rfl

set_option maxRecDepth 100000 in
theorem peersF (pc : Nat) (bb : Bool) (aK : Option Addr) (cK : Nat) (zs : List Int) (x y : Int) (z : Bool) (aS : Option Addr) (cS : Nat) (S : List S3) (w : World) (h0 : w.cell? ⟨pc, 6, none⟩ = some (.slice aK zs.length cK)) (hk : Row w w.heap.size aK zs.length zs) (hnk : zs.length ≤ 1048576) (hS : Row3 w w.heap.size aS S.length S) (hnS : S.length ≤ 1048576) :
    Calls Tryz.prog 94 #[.iface (pty bb) (.agg #[.int .i64 x, .int .i64 y, .bool z, .slice aS S.length cS]), .pointer (some ⟨pc, 0, none⟩)] w fun e w' => e = .returned (.bool (!PK zs (x, y, z, S))) ∧ Below w.heap.size w w' := by
  cases bb with
  | true =>
    have m1 := meth_ok_l x y z aS S.length cS
    unfold pty
    rw [if_pos rfl]
    go_enter Tryz.func94, Tryz.ntmps94
    go_wp2_with fail
    refine (i_peerOk aK cK zs x y z aS cS S _ hk hnk hS hnS).mono ?_
    rintro e w2 ⟨rfl, b2⟩
    go_wp2
    go_ret
    exact ⟨rfl, b2⟩
  | false =>
    have m1 := meth_ok_h x y z aS S.length cS
    unfold pty
    rw [if_neg (by simp)]
    go_enter Tryz.func94, Tryz.ntmps94
    go_wp2_with fail
    refine (i_peerOk aK cK zs x y z aS cS S _ hk hnk hS hnS).mono ?_
    rintro e w2 ⟨rfl, b2⟩
    go_wp2
    go_ret
    exact ⟨rfl, b2⟩

/-- One of a row is so, as a closure tells. -/
abbrev HEPeers (p : Nat) (a : Option Addr) (n : Nat) (G : Nat → Bool) (w : World) : Prop := ∀ k, k < n → ∃ (b off : Nat) (t : TypeId) (x : Array Value), a = some ⟨b, off, none⟩ ∧ (∀ w', Below w.heap.size w w' → w'.cell? ⟨b, off + k, none⟩ = some (.iface t (.agg x))) ∧ (∀ w', Below w.heap.size w w' → Calls Tryz.prog 94 #[.iface t (.agg x), .pointer (some ⟨p, 0, none⟩)] w' fun e w'' => e = .returned (.bool (G k)) ∧ Below w'.heap.size w' w'')
set_option maxHeartbeats 1000000 in
theorem indexPeers (p : Nat) (a : Option Addr) (n cap : Nat) (G : Nat → Bool) (w : World) (hn : n ≤ 1048576) (HE : Hid (HEPeers p a n G w)) :
    Calls Tryz.prog 119 #[.slice a n cap, .func (Fn.func 94) #[] #[.pointer (some ⟨p, 0, none⟩)]] w fun e w' => (∃ i : Int, e = .returned (.int .i64 i) ∧ decide (0 ≤ i) = AN G n) ∧ Below w.heap.size w w' := by
  go_enter Tryz.func119, Tryz.ntmps119
  go_wp2
  go_loopw [8] (fun i w' => ∃ k : Nat, k ≤ n ∧ i = .int .i64 k ∧ Hid (AN G k = false ∧ Below w.heap.size w w')) (fun i _ => n - (intOf i).toNat)
  case atStart => exact ⟨0, Nat.zero_le _, rfl, ⟨rfl, Below.refl _ _⟩⟩
  case round =>
    obtain ⟨k, hk, rfl, HH⟩ := hrel
    by_cases hlt : k < n
    · have hi : (k : Int) < n := by omega
      obtain ⟨b, off, t, x, rfl, hc, hcall⟩ := HE.out k hlt
      obtain e0 := hc _ HH.out.2
      have HC := hid (hcall _ HH.out.2)
      clear hc hcall
      cases hg : G k with
      | true =>
        have HF : Hid (AN G n = true) := an_yes hlt hg
        rw [hg] at HC
        clear hg
        go_wp2_with (go_at_call 94; refine (HC.out).mono ?_; rintro e w2 ⟨rfl, hb2⟩)
        go_ret
        exact ⟨⟨_, rfl, by rw [HF.out]; exact decide_eq_true (by omega)⟩, HH.out.2.trans (hb2.mono HH.out.2.size)⟩
      | false =>
        have HN : Hid (AN G (k + 1) = false) := an_next HH.out.1 hg
        rw [hg] at HC
        clear hg
        go_wp2_with (go_at_call 94; refine (HC.out).mono ?_; rintro e w2 ⟨rfl, hb2⟩)
        go_roundw
        case rel => exact ⟨k + 1, by omega, by go_num, ⟨HN.out, HH.out.2.trans (hb2.mono HH.out.2.size)⟩⟩
        case measure => simp [intOf]; omega
    · have hi : ¬ (k : Int) < n := by omega
      obtain rfl : k = n := by omega
      go_wp2
      go_ret
      exact ⟨⟨_, rfl, by rw [HH.out.1]; rfl⟩, HH.out.2⟩

theorem containsPeers (p : Nat) (a : Option Addr) (n cap : Nat) (G : Nat → Bool) (w : World) (hn : n ≤ 1048576) (HE : Hid (HEPeers p a n G w)) :
    Calls Tryz.prog 93 #[.slice a n cap, .func (Fn.func 94) #[] #[.pointer (some ⟨p, 0, none⟩)]] w fun e w' => e = .returned (.bool (AN G n)) ∧ Below w.heap.size w w' := by
  go_enter Tryz.func93, Tryz.ntmps93
  go_wp2_with fail
  refine (indexPeers p a n cap G _ hn HE).mono ?_
  rintro e w2 ⟨⟨i, rfl, hi⟩, hb⟩
  go_wp2
  go_ret
  exact ⟨retb rfl, hb⟩

theorem hn_ct (bs : List Bool) (k : Nat) : (HN bs k).length + Ct.CT bs k = k := by
  induction k with
  | zero => rfl
  | succ k ih =>
    have e : Ct.CT bs (k + 1) = Ct.CT bs k + if bs.getD k false then 1 else 0 := rfl
    rw [e]
    cases h : bs.getD k false with
    | true => rw [hn_lie h]; simp; omega
    | false => rw [hn_not h, List.length_append, List.length_singleton]; simp; omega
/-- Right keys, as many flags, peers as nodes, not too many that lie. -/
def C1b (c : CD) : Prop := KO c.zs c.zs.length = true ∧ (c.zs.length : Int) = c.n ∧ c.bs.length = c.zs.length ∧ c.ps.length = c.zs.length ∧ (Ct.CT c.bs c.bs.length : Int) ≤ c.f
instance (c : CD) : Decidable (C1b c) := by unfold C1b; infer_instance
def PS (c : CD) : Bool := decide (C1b c ∧ C3 c c.ps.length)
theorem ps_no {c : CD} (h : ¬ (C1b c ∧ C3 c c.ps.length)) : PS c = false := decide_eq_false h
theorem ps_an {c : CD} (h : C1b c) : PS c = !AN (fun k => !PK c.zs (pd c.ps k)) c.bs.length := by
  have hl : c.ps.length = c.bs.length := by rw [h.2.2.2.1, h.2.2.1]
  have q : AN (fun k => !PK c.zs (pd c.ps k)) c.bs.length = false ↔ C3 c c.ps.length := by
    rw [an_iff, hl]
    constructor
    · intro g j hj
      have := g j hj
      simpa using this
    · intro g j hj
      show (!PK c.zs (pd c.ps j)) = false
      rw [g j hj]; rfl
  cases e : AN (fun k => !PK c.zs (pd c.ps k)) c.bs.length with
  | false => exact decide_eq_true ⟨h, q.1 e⟩
  | true => exact ps_no fun g => by rw [q.2 g.2] at e; cases e

set_option maxHeartbeats 16000000 in
set_option maxRecDepth 100000 in
theorem i_peersOk (c : CD) (aK aL aP aQ aM aF : Option Addr) (cK cL cP cQ cM cF : Nat) (w : World) (hA : c.At w aK aL aP aQ aM aF) (hz : c.Sm) (hR : RO c.n c.f c.p c.a c.l c.m = true) :
    Calls Tryz.prog 51 #[.agg #[.int .i64 c.n, .int .i64 c.f, .int .i64 c.p, .int .i64 c.a, .int .i64 c.l, .int .i64 c.m, .slice aK c.zs.length cK, .slice aL c.bs.length cL, .slice aP c.ps.length cP, .slice aQ c.qs.length cQ, .int .i64 c.now, .slice aM c.ms.length cM, .slice aF c.fs.length cF]] w fun e w' => e = .returned (.bool (PS c)) ∧ Below w.heap.size w w' := by
  have hz1 := hz.K
  have hb1 := hz.L
  have hrm := of_decide_eq_true hR
  unfold RK at hrm
  replace hrm : (1 ≤ c.n ∧ c.n ≤ 16) ∧ 0 ≤ c.f := ⟨hrm.1, hrm.2.1.1⟩
  clear hR
  have PB : Kb c aK aL aP aQ aM aF w (w.alloc (.cells #[.int .i64 c.n, .int .i64 c.f, .int .i64 c.p, .int .i64 c.a, .int .i64 c.l, .int .i64 c.m, .slice aK c.zs.length cK, .slice aL c.bs.length cL, .slice aP c.ps.length cP, .slice aQ c.qs.length cQ, .int .i64 c.now, .slice aM c.ms.length cM, .slice aF c.fs.length cF] 35)) [.int .i64 c.n, .int .i64 c.f, .int .i64 c.p, .int .i64 c.a, .int .i64 c.l, .int .i64 c.m, .slice aK c.zs.length cK, .slice aL c.bs.length cL, .slice aP c.ps.length cP, .slice aQ c.qs.length cQ, .int .i64 c.now, .slice aM c.ms.length cM, .slice aF c.fs.length cF] := ⟨(Below.refl _ _).alloc (Nat.le_refl _) _, Room.new w [.int .i64 c.n, .int .i64 c.f, .int .i64 c.p, .int .i64 c.a, .int .i64 c.l, .int .i64 c.m, .slice aK c.zs.length cK, .slice aL c.bs.length cL, .slice aP c.ps.length cP, .slice aQ c.qs.length cQ, .int .i64 c.now, .slice aM c.ms.length cM, .slice aF c.fs.length cF] 35, hA.below ((Below.refl _ _).alloc (Nat.le_refl _) _)⟩
  by_cases h0 : KO c.zs c.zs.length = true
  · by_cases h1 : (c.zs.length : Int) = c.n
    · by_cases h2 : c.bs.length = c.zs.length
      · by_cases h3 : c.ps.length = c.zs.length
        · by_cases h4 : (Ct.CT c.bs c.bs.length : Int) ≤ c.f
          · have HV : Hid (PS c = !AN (fun k => !PK c.zs (pd c.ps k)) c.bs.length) := ps_an ⟨h0, h1, h2, h3, h4⟩
            have v1 : ((c.zs.length : Int) == c.n) = true := by simp; omega
            have v2 : ((c.bs.length : Int) == c.n) = true := by simp; omega
            have v3 : ((c.ps.length : Int) == c.n) = true := by simp; omega
            have hct := hn_ct c.bs c.bs.length
            have hw4 : IntKind.i64.wrap (c.n - ((HN c.bs c.bs.length).length : Int)) = c.n - ((HN c.bs c.bs.length).length : Int) := by rw [IntKind.wrap_i64]; omega
            have v4 : decide (c.n - ((HN c.bs c.bs.length).length : Int) ≤ c.f) = true := decide_eq_true (by omega)
            clear hct
            have HPB : Hid (c.ps.length = c.bs.length) := hid (by omega)
            have HL2 : Hid (∀ k, k < c.bs.length → (pd c.ps k).2.2.2.length ≤ 1048576) := fun k hk => hz.P2 k (by omega)
            clear hrm h1 h2 h3 h4
            go_enter Tryz.func51, Tryz.ntmps51
            have k0 := PB.X.cell 0 rfl
            go_wp2_with fail
            clear k0
            generalize w.alloc (.cells #[.int .i64 c.n, .int .i64 c.f, .int .i64 c.p, .int .i64 c.a, .int .i64 c.l, .int .i64 c.m, .slice aK c.zs.length cK, .slice aL c.bs.length cL, .slice aP c.ps.length cP, .slice aQ c.qs.length cQ, .int .i64 c.now, .slice aM c.ms.length cM, .slice aF c.fs.length cF] 35) = w1 at PB ⊢
            refine wp_region_noPanic ?_
            refine wp_region_held_drew (S := (fun w' => (w'.cell? ⟨w.heap.size, 0, none⟩ = some (.int .i64 c.n) ∧ w'.cell? ⟨w.heap.size, 1, none⟩ = some (.int .i64 c.f) ∧ w'.cell? ⟨w.heap.size, 2, none⟩ = some (.int .i64 c.p) ∧ w'.cell? ⟨w.heap.size, 3, none⟩ = some (.int .i64 c.a) ∧ w'.cell? ⟨w.heap.size, 4, none⟩ = some (.int .i64 c.l) ∧ w'.cell? ⟨w.heap.size, 5, none⟩ = some (.int .i64 c.m) ∧ w'.cell? ⟨w.heap.size, 6, none⟩ = some (.slice aK c.zs.length cK) ∧ w'.cell? ⟨w.heap.size, 7, none⟩ = some (.slice aL c.bs.length cL) ∧ w'.cell? ⟨w.heap.size, 8, none⟩ = some (.slice aP c.ps.length cP) ∧ w'.cell? ⟨w.heap.size, 9, none⟩ = some (.slice aQ c.qs.length cQ) ∧ w'.cell? ⟨w.heap.size, 10, none⟩ = some (.int .i64 c.now) ∧ w'.cell? ⟨w.heap.size, 11, none⟩ = some (.slice aM c.ms.length cM) ∧ w'.cell? ⟨w.heap.size, 12, none⟩ = some (.slice aF c.fs.length cF)) ∧ Hid (Kb c aK aL aP aQ aM aF w w' [.int .i64 c.n, .int .i64 c.f, .int .i64 c.p, .int .i64 c.a, .int .i64 c.l, .int .i64 c.m, .slice aK c.zs.length cK, .slice aL c.bs.length cL, .slice aP c.ps.length cP, .slice aQ c.qs.length cQ, .int .i64 c.now, .slice aM c.ms.length cM, .slice aF c.fs.length cF]))) (by kernel_rfl) ⟨⟨(PB.below (Below.refl _ _).drew).X.cell 0 rfl, (PB.below (Below.refl _ _).drew).X.cell 1 rfl, (PB.below (Below.refl _ _).drew).X.cell 2 rfl, (PB.below (Below.refl _ _).drew).X.cell 3 rfl, (PB.below (Below.refl _ _).drew).X.cell 4 rfl, (PB.below (Below.refl _ _).drew).X.cell 5 rfl, (PB.below (Below.refl _ _).drew).X.cell 6 rfl, (PB.below (Below.refl _ _).drew).X.cell 7 rfl, (PB.below (Below.refl _ _).drew).X.cell 8 rfl, (PB.below (Below.refl _ _).drew).X.cell 9 rfl, (PB.below (Below.refl _ _).drew).X.cell 10 rfl, (PB.below (Below.refl _ _).drew).X.cell 11 rfl, (PB.below (Below.refl _ _).drew).X.cell 12 rfl⟩, (PB.below (Below.refl _ _).drew)⟩ (fun hHeld => ?_)
            refine Tk.W 0 (some 7) (.fieldAddr 35 (.tmp 1) 1) 0 none ?_
            refine Tk.W 1 (some 8) (.load 26 (.tmp 7)) 26 none ?_
            refine Tk.R 2 (some 9) (.call ⟨.value (.func 92), #[.tmp 8], #[26]⟩) 4 none (fun K hK => ?_)
            go_simp
            refine (Sl.i_KeysOk aK c.zs.length cK c.zs _ hHeld.2.out.A.K hz1).mono ?_
            rintro e wv ⟨rfl, bq53⟩
            rw [h0]
            have Pq53 := hHeld.2.out.below bq53
            try dsimp only
            refine hK.out _ _ ⟨⟨Pq53.X.cell 0 rfl, Pq53.X.cell 1 rfl, Pq53.X.cell 2 rfl, Pq53.X.cell 3 rfl, Pq53.X.cell 4 rfl, Pq53.X.cell 5 rfl, Pq53.X.cell 6 rfl, Pq53.X.cell 7 rfl, Pq53.X.cell 8 rfl, Pq53.X.cell 9 rfl, Pq53.X.cell 10 rfl, Pq53.X.cell 11 rfl, Pq53.X.cell 12 rfl⟩, Pq53⟩ ?_; clear hK K hHeld; intro hHeld; try simp only [Act.put, List.setIfInBounds_toArray, List.set_cons_zero, List.set_cons_succ]
            refine Tk.W 3 (some 10) (.move (.tmp 9)) 4 none ?_
            refine Tk.W 4 (some 11) (.fieldAddr 35 (.tmp 1) 1) 0 (some (3, true)) ?_
            refine Tk.W 5 (some 12) (.load 26 (.tmp 11)) 26 (some (3, true)) ?_
            refine Tk.W 6 (some 13) (.call ⟨.builtin .len, #[.tmp 12], #[26]⟩) 3 (some (3, true)) ?_
            refine Tk.W 7 (some 14) (.move (.tmp 3)) 3 (some (3, true)) ?_
            refine Tk.W 8 (some 15) (.binOp .eql 3 (.tmp 13) (.tmp 14) 3) 4 (some (3, true)) ?_
            refine Tk.W 9 (some 16) (.pick (.tmp 10) (.tmp 15) (.const (.bool false))) 4 none ?_
            refine Tk.W 10 (some 17) (.move (.tmp 16)) 4 none ?_
            refine Tk.W 11 (some 18) (.fieldAddr 35 (.tmp 1) 2) 0 (some (10, true)) ?_
            refine Tk.W 12 (some 19) (.load 27 (.tmp 18)) 27 (some (10, true)) ?_
            refine Tk.W 13 (some 20) (.call ⟨.builtin .len, #[.tmp 19], #[27]⟩) 3 (some (10, true)) ?_
            refine Tk.W 14 (some 21) (.move (.tmp 3)) 3 (some (10, true)) ?_
            refine Tk.W 15 (some 22) (.binOp .eql 3 (.tmp 20) (.tmp 21) 3) 4 (some (10, true)) ?_
            refine Tk.W 16 (some 23) (.pick (.tmp 17) (.tmp 22) (.const (.bool false))) 4 none ?_
            refine Tk.W 17 (some 24) (.move (.tmp 23)) 4 none ?_
            refine Tk.W 18 (some 25) (.fieldAddr 35 (.tmp 1) 3) 0 (some (17, true)) ?_
            refine Tk.W 19 (some 26) (.load 30 (.tmp 25)) 30 (some (17, true)) ?_
            refine Tk.W 20 (some 27) (.call ⟨.builtin .len, #[.tmp 26], #[30]⟩) 3 (some (17, true)) ?_
            refine Tk.W 21 (some 28) (.move (.tmp 3)) 3 (some (17, true)) ?_
            refine Tk.W 22 (some 29) (.binOp .eql 3 (.tmp 27) (.tmp 28) 3) 4 (some (17, true)) ?_
            refine Tk.W 23 (some 30) (.pick (.tmp 24) (.tmp 29) (.const (.bool false))) 4 none ?_
            refine Tk.W 24 (some 31) (.move (.tmp 30)) 4 none ?_
            refine Tk.W 25 (some 32) (.move (.tmp 3)) 3 (some (24, true)) ?_
            refine Tk.W 26 (some 33) (.load 35 (.tmp 1)) 35 (some (24, true)) ?_
            refine Tk.W 30 (some 37) (.fieldAddr 35 (.tmp 1) 0) 0 (some (24, true)) ?_
            refine Tk.W 31 (some 38) (.fieldAddr 25 (.tmp 37) 1) 0 (some (24, true)) ?_
            refine Tk.W 32 (some 39) (.load 2 (.tmp 38)) 2 (some (24, true)) ?_
            refine Tk.R 27 (some 34) (.call ⟨.value (.func 49), #[.tmp 33], #[35]⟩) 26 (some (24, true)) (fun K hK => ?_)
            go_simp
            refine (i_bareHonest c _ _ _ _ _ _ _ _ _ _ _ _ _ hHeld.2.out.A hb1 HPB.out).mono ?_
            rintro e wv ⟨⟨gh, ch, rfl, ohq531⟩, bq531⟩
            have Pq531 := hHeld.2.out.below bq531
            clear ohq531
            try dsimp only
            refine hK.out _ _ ⟨⟨Pq531.X.cell 0 rfl, Pq531.X.cell 1 rfl, Pq531.X.cell 2 rfl, Pq531.X.cell 3 rfl, Pq531.X.cell 4 rfl, Pq531.X.cell 5 rfl, Pq531.X.cell 6 rfl, Pq531.X.cell 7 rfl, Pq531.X.cell 8 rfl, Pq531.X.cell 9 rfl, Pq531.X.cell 10 rfl, Pq531.X.cell 11 rfl, Pq531.X.cell 12 rfl⟩, Pq531⟩ ?_; clear hK K hHeld; intro hHeld; try simp only [Act.put, List.setIfInBounds_toArray, List.set_cons_zero, List.set_cons_succ]
            refine Tk.W 28 (some 35) (.call ⟨.builtin .len, #[.tmp 34], #[26]⟩) 3 (some (24, true)) ?_
            refine Tk.W 29 (some 36) (.binOp .sub 3 (.tmp 32) (.tmp 35) 3) 3 (some (24, true)) ?_
            refine Tk.W 33 (some 40) (.binOp .leq 3 (.tmp 36) (.tmp 39) 3) 4 (some (24, true)) ?_
            refine Tk.W 34 (some 41) (.pick (.tmp 31) (.tmp 40) (.const (.bool false))) 4 none ?_
            refine Tk.W 35 (some 42) (.move (.tmp 41)) 4 none ?_
            refine Tk.W 36 (some 43) (.load 35 (.tmp 1)) 35 (some (35, true)) ?_
            refine Tk.W 38 (some 45) (.makeFunc (Fn.func 94) #[] #[.tmp 1]) 123 (some (35, true)) ?_
            refine Tk.R 37 (some 44) (.call ⟨.value (.func 50), #[.tmp 43], #[35]⟩) 83 (some (35, true)) (fun K hK => ?_)
            go_simp
            refine (i_peersIn c _ _ _ _ _ _ _ _ _ _ _ _ _ hHeld.2.out.A hb1 HPB.out).mono ?_
            rintro e wv ⟨⟨gi, rfl, hI, _⟩, bq539⟩
            have Pq539 := hHeld.2.out.below bq539
            try dsimp only
            refine hK.out _ _ ⟨⟨Pq539.X.cell 0 rfl, Pq539.X.cell 1 rfl, Pq539.X.cell 2 rfl, Pq539.X.cell 3 rfl, Pq539.X.cell 4 rfl, Pq539.X.cell 5 rfl, Pq539.X.cell 6 rfl, Pq539.X.cell 7 rfl, Pq539.X.cell 8 rfl, Pq539.X.cell 9 rfl, Pq539.X.cell 10 rfl, Pq539.X.cell 11 rfl, Pq539.X.cell 12 rfl⟩, Pq539⟩ ?_; clear hK K hHeld; intro hHeld; try simp only [Act.put, List.setIfInBounds_toArray, List.set_cons_zero, List.set_cons_succ]
            refine Tk.R 39 (some 46) (.call ⟨.value (.func 93), #[.tmp 44, .tmp 45], #[83, 123]⟩) 4 (some (35, true)) (fun K hK => ?_)
            have KX := hHeld.2.out
            have HE : Hid (HEPeers w.heap.size (some ⟨gi, 0, none⟩) c.bs.length (fun k => !PK c.zs (pd c.ps k)) wv) := fun k hk => by
              obtain ⟨aS, cS, q1, q2⟩ := hI.2 k hk
              exact ⟨gi, 0, pty (c.bs.getD k false), _, rfl, fun w' B' => by rw [Nat.zero_add]; exact (B'.cell (p := ⟨gi, k, none⟩) hI.1).trans q1, fun w' B' => peersF w.heap.size _ aK cK c.zs _ _ _ aS cS _ w' ((KX.below B').X.cell 6 rfl) (KX.below B').A.K hz1 (q2.below B') (HL2.out k hk)⟩
            clear KX hI
            go_simp
            refine (containsPeers w.heap.size _ _ _ _ _ hb1 HE).mono ?_
            rintro e wv ⟨rfl, bq540⟩
            have Pq540 := hHeld.2.out.below bq540
            try dsimp only
            refine hK.out _ _ ⟨⟨Pq540.X.cell 0 rfl, Pq540.X.cell 1 rfl, Pq540.X.cell 2 rfl, Pq540.X.cell 3 rfl, Pq540.X.cell 4 rfl, Pq540.X.cell 5 rfl, Pq540.X.cell 6 rfl, Pq540.X.cell 7 rfl, Pq540.X.cell 8 rfl, Pq540.X.cell 9 rfl, Pq540.X.cell 10 rfl, Pq540.X.cell 11 rfl, Pq540.X.cell 12 rfl⟩, Pq540⟩ ?_; clear hK K hHeld; intro hHeld; try simp only [Act.put, List.setIfInBounds_toArray, List.set_cons_zero, List.set_cons_succ]
            refine Tk.W 40 (some 47) (.unOp .not 4 (.tmp 46)) 4 (some (35, true)) ?_
            refine Tk.W 41 (some 48) (.pick (.tmp 42) (.tmp 47) (.const (.bool false))) 4 none ?_
            refine Tk.W 42 (some 2) (.assign (.tmp 48)) 4 none ?_
            refine wpAnyH_done (by kernel_rfl) ?_ _
            refine NoPanic.normal ?_
            have PX := hHeld.2.out
            clear hHeld
            go_wp2
            go_ret
            exact ⟨retb HV.out.symm, PX.B⟩
          · have HV : Hid (PS c = false) := ps_no (fun h => absurd h.1.2.2.2.2 h4)
            have v1 : ((c.zs.length : Int) == c.n) = true := by simp; omega
            have v2 : ((c.bs.length : Int) == c.n) = true := by simp; omega
            have v3 : ((c.ps.length : Int) == c.n) = true := by simp; omega
            have hct := hn_ct c.bs c.bs.length
            have hw4 : IntKind.i64.wrap (c.n - ((HN c.bs c.bs.length).length : Int)) = c.n - ((HN c.bs c.bs.length).length : Int) := by rw [IntKind.wrap_i64]; omega
            have v4 : decide (c.n - ((HN c.bs c.bs.length).length : Int) ≤ c.f) = false := decide_eq_false (by omega)
            clear hct
            have HPB : Hid (c.ps.length = c.bs.length) := hid (by omega)
            have HL2 : Hid (∀ k, k < c.bs.length → (pd c.ps k).2.2.2.length ≤ 1048576) := fun k hk => hz.P2 k (by omega)
            clear hrm h1 h2 h3 h4
            go_enter Tryz.func51, Tryz.ntmps51
            have k0 := PB.X.cell 0 rfl
            go_wp2_with fail
            clear k0
            generalize w.alloc (.cells #[.int .i64 c.n, .int .i64 c.f, .int .i64 c.p, .int .i64 c.a, .int .i64 c.l, .int .i64 c.m, .slice aK c.zs.length cK, .slice aL c.bs.length cL, .slice aP c.ps.length cP, .slice aQ c.qs.length cQ, .int .i64 c.now, .slice aM c.ms.length cM, .slice aF c.fs.length cF] 35) = w1 at PB ⊢
            refine wp_region_noPanic ?_
            refine wp_region_held_drew (S := (fun w' => (w'.cell? ⟨w.heap.size, 0, none⟩ = some (.int .i64 c.n) ∧ w'.cell? ⟨w.heap.size, 1, none⟩ = some (.int .i64 c.f) ∧ w'.cell? ⟨w.heap.size, 2, none⟩ = some (.int .i64 c.p) ∧ w'.cell? ⟨w.heap.size, 3, none⟩ = some (.int .i64 c.a) ∧ w'.cell? ⟨w.heap.size, 4, none⟩ = some (.int .i64 c.l) ∧ w'.cell? ⟨w.heap.size, 5, none⟩ = some (.int .i64 c.m) ∧ w'.cell? ⟨w.heap.size, 6, none⟩ = some (.slice aK c.zs.length cK) ∧ w'.cell? ⟨w.heap.size, 7, none⟩ = some (.slice aL c.bs.length cL) ∧ w'.cell? ⟨w.heap.size, 8, none⟩ = some (.slice aP c.ps.length cP) ∧ w'.cell? ⟨w.heap.size, 9, none⟩ = some (.slice aQ c.qs.length cQ) ∧ w'.cell? ⟨w.heap.size, 10, none⟩ = some (.int .i64 c.now) ∧ w'.cell? ⟨w.heap.size, 11, none⟩ = some (.slice aM c.ms.length cM) ∧ w'.cell? ⟨w.heap.size, 12, none⟩ = some (.slice aF c.fs.length cF)) ∧ Hid (Kb c aK aL aP aQ aM aF w w' [.int .i64 c.n, .int .i64 c.f, .int .i64 c.p, .int .i64 c.a, .int .i64 c.l, .int .i64 c.m, .slice aK c.zs.length cK, .slice aL c.bs.length cL, .slice aP c.ps.length cP, .slice aQ c.qs.length cQ, .int .i64 c.now, .slice aM c.ms.length cM, .slice aF c.fs.length cF]))) (by kernel_rfl) ⟨⟨(PB.below (Below.refl _ _).drew).X.cell 0 rfl, (PB.below (Below.refl _ _).drew).X.cell 1 rfl, (PB.below (Below.refl _ _).drew).X.cell 2 rfl, (PB.below (Below.refl _ _).drew).X.cell 3 rfl, (PB.below (Below.refl _ _).drew).X.cell 4 rfl, (PB.below (Below.refl _ _).drew).X.cell 5 rfl, (PB.below (Below.refl _ _).drew).X.cell 6 rfl, (PB.below (Below.refl _ _).drew).X.cell 7 rfl, (PB.below (Below.refl _ _).drew).X.cell 8 rfl, (PB.below (Below.refl _ _).drew).X.cell 9 rfl, (PB.below (Below.refl _ _).drew).X.cell 10 rfl, (PB.below (Below.refl _ _).drew).X.cell 11 rfl, (PB.below (Below.refl _ _).drew).X.cell 12 rfl⟩, (PB.below (Below.refl _ _).drew)⟩ (fun hHeld => ?_)
            refine Tk.W 0 (some 7) (.fieldAddr 35 (.tmp 1) 1) 0 none ?_
            refine Tk.W 1 (some 8) (.load 26 (.tmp 7)) 26 none ?_
            refine Tk.R 2 (some 9) (.call ⟨.value (.func 92), #[.tmp 8], #[26]⟩) 4 none (fun K hK => ?_)
            go_simp
            refine (Sl.i_KeysOk aK c.zs.length cK c.zs _ hHeld.2.out.A.K hz1).mono ?_
            rintro e wv ⟨rfl, bq43⟩
            rw [h0]
            have Pq43 := hHeld.2.out.below bq43
            try dsimp only
            refine hK.out _ _ ⟨⟨Pq43.X.cell 0 rfl, Pq43.X.cell 1 rfl, Pq43.X.cell 2 rfl, Pq43.X.cell 3 rfl, Pq43.X.cell 4 rfl, Pq43.X.cell 5 rfl, Pq43.X.cell 6 rfl, Pq43.X.cell 7 rfl, Pq43.X.cell 8 rfl, Pq43.X.cell 9 rfl, Pq43.X.cell 10 rfl, Pq43.X.cell 11 rfl, Pq43.X.cell 12 rfl⟩, Pq43⟩ ?_; clear hK K hHeld; intro hHeld; try simp only [Act.put, List.setIfInBounds_toArray, List.set_cons_zero, List.set_cons_succ]
            refine Tk.W 3 (some 10) (.move (.tmp 9)) 4 none ?_
            refine Tk.W 4 (some 11) (.fieldAddr 35 (.tmp 1) 1) 0 (some (3, true)) ?_
            refine Tk.W 5 (some 12) (.load 26 (.tmp 11)) 26 (some (3, true)) ?_
            refine Tk.W 6 (some 13) (.call ⟨.builtin .len, #[.tmp 12], #[26]⟩) 3 (some (3, true)) ?_
            refine Tk.W 7 (some 14) (.move (.tmp 3)) 3 (some (3, true)) ?_
            refine Tk.W 8 (some 15) (.binOp .eql 3 (.tmp 13) (.tmp 14) 3) 4 (some (3, true)) ?_
            refine Tk.W 9 (some 16) (.pick (.tmp 10) (.tmp 15) (.const (.bool false))) 4 none ?_
            refine Tk.W 10 (some 17) (.move (.tmp 16)) 4 none ?_
            refine Tk.W 11 (some 18) (.fieldAddr 35 (.tmp 1) 2) 0 (some (10, true)) ?_
            refine Tk.W 12 (some 19) (.load 27 (.tmp 18)) 27 (some (10, true)) ?_
            refine Tk.W 13 (some 20) (.call ⟨.builtin .len, #[.tmp 19], #[27]⟩) 3 (some (10, true)) ?_
            refine Tk.W 14 (some 21) (.move (.tmp 3)) 3 (some (10, true)) ?_
            refine Tk.W 15 (some 22) (.binOp .eql 3 (.tmp 20) (.tmp 21) 3) 4 (some (10, true)) ?_
            refine Tk.W 16 (some 23) (.pick (.tmp 17) (.tmp 22) (.const (.bool false))) 4 none ?_
            refine Tk.W 17 (some 24) (.move (.tmp 23)) 4 none ?_
            refine Tk.W 18 (some 25) (.fieldAddr 35 (.tmp 1) 3) 0 (some (17, true)) ?_
            refine Tk.W 19 (some 26) (.load 30 (.tmp 25)) 30 (some (17, true)) ?_
            refine Tk.W 20 (some 27) (.call ⟨.builtin .len, #[.tmp 26], #[30]⟩) 3 (some (17, true)) ?_
            refine Tk.W 21 (some 28) (.move (.tmp 3)) 3 (some (17, true)) ?_
            refine Tk.W 22 (some 29) (.binOp .eql 3 (.tmp 27) (.tmp 28) 3) 4 (some (17, true)) ?_
            refine Tk.W 23 (some 30) (.pick (.tmp 24) (.tmp 29) (.const (.bool false))) 4 none ?_
            refine Tk.W 24 (some 31) (.move (.tmp 30)) 4 none ?_
            refine Tk.W 25 (some 32) (.move (.tmp 3)) 3 (some (24, true)) ?_
            refine Tk.W 26 (some 33) (.load 35 (.tmp 1)) 35 (some (24, true)) ?_
            refine Tk.W 30 (some 37) (.fieldAddr 35 (.tmp 1) 0) 0 (some (24, true)) ?_
            refine Tk.W 31 (some 38) (.fieldAddr 25 (.tmp 37) 1) 0 (some (24, true)) ?_
            refine Tk.W 32 (some 39) (.load 2 (.tmp 38)) 2 (some (24, true)) ?_
            refine Tk.R 27 (some 34) (.call ⟨.value (.func 49), #[.tmp 33], #[35]⟩) 26 (some (24, true)) (fun K hK => ?_)
            go_simp
            refine (i_bareHonest c _ _ _ _ _ _ _ _ _ _ _ _ _ hHeld.2.out.A hb1 HPB.out).mono ?_
            rintro e wv ⟨⟨gh, ch, rfl, ohq431⟩, bq431⟩
            have Pq431 := hHeld.2.out.below bq431
            clear ohq431
            try dsimp only
            refine hK.out _ _ ⟨⟨Pq431.X.cell 0 rfl, Pq431.X.cell 1 rfl, Pq431.X.cell 2 rfl, Pq431.X.cell 3 rfl, Pq431.X.cell 4 rfl, Pq431.X.cell 5 rfl, Pq431.X.cell 6 rfl, Pq431.X.cell 7 rfl, Pq431.X.cell 8 rfl, Pq431.X.cell 9 rfl, Pq431.X.cell 10 rfl, Pq431.X.cell 11 rfl, Pq431.X.cell 12 rfl⟩, Pq431⟩ ?_; clear hK K hHeld; intro hHeld; try simp only [Act.put, List.setIfInBounds_toArray, List.set_cons_zero, List.set_cons_succ]
            refine Tk.W 28 (some 35) (.call ⟨.builtin .len, #[.tmp 34], #[26]⟩) 3 (some (24, true)) ?_
            refine Tk.W 29 (some 36) (.binOp .sub 3 (.tmp 32) (.tmp 35) 3) 3 (some (24, true)) ?_
            refine Tk.W 33 (some 40) (.binOp .leq 3 (.tmp 36) (.tmp 39) 3) 4 (some (24, true)) ?_
            refine Tk.W 34 (some 41) (.pick (.tmp 31) (.tmp 40) (.const (.bool false))) 4 none ?_
            refine Tk.W 35 (some 42) (.move (.tmp 41)) 4 none ?_
            refine Tk.N 36 (some 43) (.load 35 (.tmp 1)) 35 (some (35, true)) ?_
            refine Tk.N 37 (some 44) (.call ⟨.value (.func 50), #[.tmp 43], #[35]⟩) 83 (some (35, true)) ?_
            refine Tk.N 38 (some 45) (.makeFunc (Fn.func 94) #[] #[.tmp 1]) 123 (some (35, true)) ?_
            refine Tk.N 39 (some 46) (.call ⟨.value (.func 93), #[.tmp 44, .tmp 45], #[83, 123]⟩) 4 (some (35, true)) ?_
            refine Tk.N 40 (some 47) (.unOp .not 4 (.tmp 46)) 4 (some (35, true)) ?_
            refine Tk.W 41 (some 48) (.pick (.tmp 42) (.tmp 47) (.const (.bool false))) 4 none ?_
            refine Tk.W 42 (some 2) (.assign (.tmp 48)) 4 none ?_
            refine wpAnyH_done (by kernel_rfl) ?_ _
            refine NoPanic.normal ?_
            have PX := hHeld.2.out
            clear hHeld
            go_wp2
            go_ret
            exact ⟨retb HV.out.symm, PX.B⟩
        · have HV : Hid (PS c = false) := ps_no (fun h => absurd h.1.2.2.2.1 h3)
          have v1 : ((c.zs.length : Int) == c.n) = true := by simp; omega
          have v2 : ((c.bs.length : Int) == c.n) = true := by simp; omega
          have v3 : ((c.ps.length : Int) == c.n) = false := by simp; omega
          clear hrm h1 h2 h3
          go_enter Tryz.func51, Tryz.ntmps51
          have k0 := PB.X.cell 0 rfl
          go_wp2_with fail
          clear k0
          generalize w.alloc (.cells #[.int .i64 c.n, .int .i64 c.f, .int .i64 c.p, .int .i64 c.a, .int .i64 c.l, .int .i64 c.m, .slice aK c.zs.length cK, .slice aL c.bs.length cL, .slice aP c.ps.length cP, .slice aQ c.qs.length cQ, .int .i64 c.now, .slice aM c.ms.length cM, .slice aF c.fs.length cF] 35) = w1 at PB ⊢
          refine wp_region_noPanic ?_
          refine wp_region_held_drew (S := (fun w' => (w'.cell? ⟨w.heap.size, 0, none⟩ = some (.int .i64 c.n) ∧ w'.cell? ⟨w.heap.size, 1, none⟩ = some (.int .i64 c.f) ∧ w'.cell? ⟨w.heap.size, 2, none⟩ = some (.int .i64 c.p) ∧ w'.cell? ⟨w.heap.size, 3, none⟩ = some (.int .i64 c.a) ∧ w'.cell? ⟨w.heap.size, 4, none⟩ = some (.int .i64 c.l) ∧ w'.cell? ⟨w.heap.size, 5, none⟩ = some (.int .i64 c.m) ∧ w'.cell? ⟨w.heap.size, 6, none⟩ = some (.slice aK c.zs.length cK) ∧ w'.cell? ⟨w.heap.size, 7, none⟩ = some (.slice aL c.bs.length cL) ∧ w'.cell? ⟨w.heap.size, 8, none⟩ = some (.slice aP c.ps.length cP) ∧ w'.cell? ⟨w.heap.size, 9, none⟩ = some (.slice aQ c.qs.length cQ) ∧ w'.cell? ⟨w.heap.size, 10, none⟩ = some (.int .i64 c.now) ∧ w'.cell? ⟨w.heap.size, 11, none⟩ = some (.slice aM c.ms.length cM) ∧ w'.cell? ⟨w.heap.size, 12, none⟩ = some (.slice aF c.fs.length cF)) ∧ Hid (Kb c aK aL aP aQ aM aF w w' [.int .i64 c.n, .int .i64 c.f, .int .i64 c.p, .int .i64 c.a, .int .i64 c.l, .int .i64 c.m, .slice aK c.zs.length cK, .slice aL c.bs.length cL, .slice aP c.ps.length cP, .slice aQ c.qs.length cQ, .int .i64 c.now, .slice aM c.ms.length cM, .slice aF c.fs.length cF]))) (by kernel_rfl) ⟨⟨(PB.below (Below.refl _ _).drew).X.cell 0 rfl, (PB.below (Below.refl _ _).drew).X.cell 1 rfl, (PB.below (Below.refl _ _).drew).X.cell 2 rfl, (PB.below (Below.refl _ _).drew).X.cell 3 rfl, (PB.below (Below.refl _ _).drew).X.cell 4 rfl, (PB.below (Below.refl _ _).drew).X.cell 5 rfl, (PB.below (Below.refl _ _).drew).X.cell 6 rfl, (PB.below (Below.refl _ _).drew).X.cell 7 rfl, (PB.below (Below.refl _ _).drew).X.cell 8 rfl, (PB.below (Below.refl _ _).drew).X.cell 9 rfl, (PB.below (Below.refl _ _).drew).X.cell 10 rfl, (PB.below (Below.refl _ _).drew).X.cell 11 rfl, (PB.below (Below.refl _ _).drew).X.cell 12 rfl⟩, (PB.below (Below.refl _ _).drew)⟩ (fun hHeld => ?_)
          refine Tk.W 0 (some 7) (.fieldAddr 35 (.tmp 1) 1) 0 none ?_
          refine Tk.W 1 (some 8) (.load 26 (.tmp 7)) 26 none ?_
          refine Tk.R 2 (some 9) (.call ⟨.value (.func 92), #[.tmp 8], #[26]⟩) 4 none (fun K hK => ?_)
          go_simp
          refine (Sl.i_KeysOk aK c.zs.length cK c.zs _ hHeld.2.out.A.K hz1).mono ?_
          rintro e wv ⟨rfl, bq33⟩
          rw [h0]
          have Pq33 := hHeld.2.out.below bq33
          try dsimp only
          refine hK.out _ _ ⟨⟨Pq33.X.cell 0 rfl, Pq33.X.cell 1 rfl, Pq33.X.cell 2 rfl, Pq33.X.cell 3 rfl, Pq33.X.cell 4 rfl, Pq33.X.cell 5 rfl, Pq33.X.cell 6 rfl, Pq33.X.cell 7 rfl, Pq33.X.cell 8 rfl, Pq33.X.cell 9 rfl, Pq33.X.cell 10 rfl, Pq33.X.cell 11 rfl, Pq33.X.cell 12 rfl⟩, Pq33⟩ ?_; clear hK K hHeld; intro hHeld; try simp only [Act.put, List.setIfInBounds_toArray, List.set_cons_zero, List.set_cons_succ]
          refine Tk.W 3 (some 10) (.move (.tmp 9)) 4 none ?_
          refine Tk.W 4 (some 11) (.fieldAddr 35 (.tmp 1) 1) 0 (some (3, true)) ?_
          refine Tk.W 5 (some 12) (.load 26 (.tmp 11)) 26 (some (3, true)) ?_
          refine Tk.W 6 (some 13) (.call ⟨.builtin .len, #[.tmp 12], #[26]⟩) 3 (some (3, true)) ?_
          refine Tk.W 7 (some 14) (.move (.tmp 3)) 3 (some (3, true)) ?_
          refine Tk.W 8 (some 15) (.binOp .eql 3 (.tmp 13) (.tmp 14) 3) 4 (some (3, true)) ?_
          refine Tk.W 9 (some 16) (.pick (.tmp 10) (.tmp 15) (.const (.bool false))) 4 none ?_
          refine Tk.W 10 (some 17) (.move (.tmp 16)) 4 none ?_
          refine Tk.W 11 (some 18) (.fieldAddr 35 (.tmp 1) 2) 0 (some (10, true)) ?_
          refine Tk.W 12 (some 19) (.load 27 (.tmp 18)) 27 (some (10, true)) ?_
          refine Tk.W 13 (some 20) (.call ⟨.builtin .len, #[.tmp 19], #[27]⟩) 3 (some (10, true)) ?_
          refine Tk.W 14 (some 21) (.move (.tmp 3)) 3 (some (10, true)) ?_
          refine Tk.W 15 (some 22) (.binOp .eql 3 (.tmp 20) (.tmp 21) 3) 4 (some (10, true)) ?_
          refine Tk.W 16 (some 23) (.pick (.tmp 17) (.tmp 22) (.const (.bool false))) 4 none ?_
          refine Tk.W 17 (some 24) (.move (.tmp 23)) 4 none ?_
          refine Tk.W 18 (some 25) (.fieldAddr 35 (.tmp 1) 3) 0 (some (17, true)) ?_
          refine Tk.W 19 (some 26) (.load 30 (.tmp 25)) 30 (some (17, true)) ?_
          refine Tk.W 20 (some 27) (.call ⟨.builtin .len, #[.tmp 26], #[30]⟩) 3 (some (17, true)) ?_
          refine Tk.W 21 (some 28) (.move (.tmp 3)) 3 (some (17, true)) ?_
          refine Tk.W 22 (some 29) (.binOp .eql 3 (.tmp 27) (.tmp 28) 3) 4 (some (17, true)) ?_
          refine Tk.W 23 (some 30) (.pick (.tmp 24) (.tmp 29) (.const (.bool false))) 4 none ?_
          refine Tk.W 24 (some 31) (.move (.tmp 30)) 4 none ?_
          refine Tk.N 25 (some 32) (.move (.tmp 3)) 3 (some (24, true)) ?_
          refine Tk.N 26 (some 33) (.load 35 (.tmp 1)) 35 (some (24, true)) ?_
          refine Tk.N 27 (some 34) (.call ⟨.value (.func 49), #[.tmp 33], #[35]⟩) 26 (some (24, true)) ?_
          refine Tk.N 28 (some 35) (.call ⟨.builtin .len, #[.tmp 34], #[26]⟩) 3 (some (24, true)) ?_
          refine Tk.N 29 (some 36) (.binOp .sub 3 (.tmp 32) (.tmp 35) 3) 3 (some (24, true)) ?_
          refine Tk.N 30 (some 37) (.fieldAddr 35 (.tmp 1) 0) 0 (some (24, true)) ?_
          refine Tk.N 31 (some 38) (.fieldAddr 25 (.tmp 37) 1) 0 (some (24, true)) ?_
          refine Tk.N 32 (some 39) (.load 2 (.tmp 38)) 2 (some (24, true)) ?_
          refine Tk.N 33 (some 40) (.binOp .leq 3 (.tmp 36) (.tmp 39) 3) 4 (some (24, true)) ?_
          refine Tk.W 34 (some 41) (.pick (.tmp 31) (.tmp 40) (.const (.bool false))) 4 none ?_
          refine Tk.W 35 (some 42) (.move (.tmp 41)) 4 none ?_
          refine Tk.N 36 (some 43) (.load 35 (.tmp 1)) 35 (some (35, true)) ?_
          refine Tk.N 37 (some 44) (.call ⟨.value (.func 50), #[.tmp 43], #[35]⟩) 83 (some (35, true)) ?_
          refine Tk.N 38 (some 45) (.makeFunc (Fn.func 94) #[] #[.tmp 1]) 123 (some (35, true)) ?_
          refine Tk.N 39 (some 46) (.call ⟨.value (.func 93), #[.tmp 44, .tmp 45], #[83, 123]⟩) 4 (some (35, true)) ?_
          refine Tk.N 40 (some 47) (.unOp .not 4 (.tmp 46)) 4 (some (35, true)) ?_
          refine Tk.W 41 (some 48) (.pick (.tmp 42) (.tmp 47) (.const (.bool false))) 4 none ?_
          refine Tk.W 42 (some 2) (.assign (.tmp 48)) 4 none ?_
          refine wpAnyH_done (by kernel_rfl) ?_ _
          refine NoPanic.normal ?_
          have PX := hHeld.2.out
          clear hHeld
          go_wp2
          go_ret
          exact ⟨retb HV.out.symm, PX.B⟩
      · have HV : Hid (PS c = false) := ps_no (fun h => absurd h.1.2.2.1 h2)
        have v1 : ((c.zs.length : Int) == c.n) = true := by simp; omega
        have v2 : ((c.bs.length : Int) == c.n) = false := by simp; omega
        clear hrm h1 h2
        go_enter Tryz.func51, Tryz.ntmps51
        have k0 := PB.X.cell 0 rfl
        go_wp2_with fail
        clear k0
        generalize w.alloc (.cells #[.int .i64 c.n, .int .i64 c.f, .int .i64 c.p, .int .i64 c.a, .int .i64 c.l, .int .i64 c.m, .slice aK c.zs.length cK, .slice aL c.bs.length cL, .slice aP c.ps.length cP, .slice aQ c.qs.length cQ, .int .i64 c.now, .slice aM c.ms.length cM, .slice aF c.fs.length cF] 35) = w1 at PB ⊢
        refine wp_region_noPanic ?_
        refine wp_region_held_drew (S := (fun w' => (w'.cell? ⟨w.heap.size, 0, none⟩ = some (.int .i64 c.n) ∧ w'.cell? ⟨w.heap.size, 1, none⟩ = some (.int .i64 c.f) ∧ w'.cell? ⟨w.heap.size, 2, none⟩ = some (.int .i64 c.p) ∧ w'.cell? ⟨w.heap.size, 3, none⟩ = some (.int .i64 c.a) ∧ w'.cell? ⟨w.heap.size, 4, none⟩ = some (.int .i64 c.l) ∧ w'.cell? ⟨w.heap.size, 5, none⟩ = some (.int .i64 c.m) ∧ w'.cell? ⟨w.heap.size, 6, none⟩ = some (.slice aK c.zs.length cK) ∧ w'.cell? ⟨w.heap.size, 7, none⟩ = some (.slice aL c.bs.length cL) ∧ w'.cell? ⟨w.heap.size, 8, none⟩ = some (.slice aP c.ps.length cP) ∧ w'.cell? ⟨w.heap.size, 9, none⟩ = some (.slice aQ c.qs.length cQ) ∧ w'.cell? ⟨w.heap.size, 10, none⟩ = some (.int .i64 c.now) ∧ w'.cell? ⟨w.heap.size, 11, none⟩ = some (.slice aM c.ms.length cM) ∧ w'.cell? ⟨w.heap.size, 12, none⟩ = some (.slice aF c.fs.length cF)) ∧ Hid (Kb c aK aL aP aQ aM aF w w' [.int .i64 c.n, .int .i64 c.f, .int .i64 c.p, .int .i64 c.a, .int .i64 c.l, .int .i64 c.m, .slice aK c.zs.length cK, .slice aL c.bs.length cL, .slice aP c.ps.length cP, .slice aQ c.qs.length cQ, .int .i64 c.now, .slice aM c.ms.length cM, .slice aF c.fs.length cF]))) (by kernel_rfl) ⟨⟨(PB.below (Below.refl _ _).drew).X.cell 0 rfl, (PB.below (Below.refl _ _).drew).X.cell 1 rfl, (PB.below (Below.refl _ _).drew).X.cell 2 rfl, (PB.below (Below.refl _ _).drew).X.cell 3 rfl, (PB.below (Below.refl _ _).drew).X.cell 4 rfl, (PB.below (Below.refl _ _).drew).X.cell 5 rfl, (PB.below (Below.refl _ _).drew).X.cell 6 rfl, (PB.below (Below.refl _ _).drew).X.cell 7 rfl, (PB.below (Below.refl _ _).drew).X.cell 8 rfl, (PB.below (Below.refl _ _).drew).X.cell 9 rfl, (PB.below (Below.refl _ _).drew).X.cell 10 rfl, (PB.below (Below.refl _ _).drew).X.cell 11 rfl, (PB.below (Below.refl _ _).drew).X.cell 12 rfl⟩, (PB.below (Below.refl _ _).drew)⟩ (fun hHeld => ?_)
        refine Tk.W 0 (some 7) (.fieldAddr 35 (.tmp 1) 1) 0 none ?_
        refine Tk.W 1 (some 8) (.load 26 (.tmp 7)) 26 none ?_
        refine Tk.R 2 (some 9) (.call ⟨.value (.func 92), #[.tmp 8], #[26]⟩) 4 none (fun K hK => ?_)
        go_simp
        refine (Sl.i_KeysOk aK c.zs.length cK c.zs _ hHeld.2.out.A.K hz1).mono ?_
        rintro e wv ⟨rfl, bq23⟩
        rw [h0]
        have Pq23 := hHeld.2.out.below bq23
        try dsimp only
        refine hK.out _ _ ⟨⟨Pq23.X.cell 0 rfl, Pq23.X.cell 1 rfl, Pq23.X.cell 2 rfl, Pq23.X.cell 3 rfl, Pq23.X.cell 4 rfl, Pq23.X.cell 5 rfl, Pq23.X.cell 6 rfl, Pq23.X.cell 7 rfl, Pq23.X.cell 8 rfl, Pq23.X.cell 9 rfl, Pq23.X.cell 10 rfl, Pq23.X.cell 11 rfl, Pq23.X.cell 12 rfl⟩, Pq23⟩ ?_; clear hK K hHeld; intro hHeld; try simp only [Act.put, List.setIfInBounds_toArray, List.set_cons_zero, List.set_cons_succ]
        refine Tk.W 3 (some 10) (.move (.tmp 9)) 4 none ?_
        refine Tk.W 4 (some 11) (.fieldAddr 35 (.tmp 1) 1) 0 (some (3, true)) ?_
        refine Tk.W 5 (some 12) (.load 26 (.tmp 11)) 26 (some (3, true)) ?_
        refine Tk.W 6 (some 13) (.call ⟨.builtin .len, #[.tmp 12], #[26]⟩) 3 (some (3, true)) ?_
        refine Tk.W 7 (some 14) (.move (.tmp 3)) 3 (some (3, true)) ?_
        refine Tk.W 8 (some 15) (.binOp .eql 3 (.tmp 13) (.tmp 14) 3) 4 (some (3, true)) ?_
        refine Tk.W 9 (some 16) (.pick (.tmp 10) (.tmp 15) (.const (.bool false))) 4 none ?_
        refine Tk.W 10 (some 17) (.move (.tmp 16)) 4 none ?_
        refine Tk.W 11 (some 18) (.fieldAddr 35 (.tmp 1) 2) 0 (some (10, true)) ?_
        refine Tk.W 12 (some 19) (.load 27 (.tmp 18)) 27 (some (10, true)) ?_
        refine Tk.W 13 (some 20) (.call ⟨.builtin .len, #[.tmp 19], #[27]⟩) 3 (some (10, true)) ?_
        refine Tk.W 14 (some 21) (.move (.tmp 3)) 3 (some (10, true)) ?_
        refine Tk.W 15 (some 22) (.binOp .eql 3 (.tmp 20) (.tmp 21) 3) 4 (some (10, true)) ?_
        refine Tk.W 16 (some 23) (.pick (.tmp 17) (.tmp 22) (.const (.bool false))) 4 none ?_
        refine Tk.W 17 (some 24) (.move (.tmp 23)) 4 none ?_
        refine Tk.N 18 (some 25) (.fieldAddr 35 (.tmp 1) 3) 0 (some (17, true)) ?_
        refine Tk.N 19 (some 26) (.load 30 (.tmp 25)) 30 (some (17, true)) ?_
        refine Tk.N 20 (some 27) (.call ⟨.builtin .len, #[.tmp 26], #[30]⟩) 3 (some (17, true)) ?_
        refine Tk.N 21 (some 28) (.move (.tmp 3)) 3 (some (17, true)) ?_
        refine Tk.N 22 (some 29) (.binOp .eql 3 (.tmp 27) (.tmp 28) 3) 4 (some (17, true)) ?_
        refine Tk.W 23 (some 30) (.pick (.tmp 24) (.tmp 29) (.const (.bool false))) 4 none ?_
        refine Tk.W 24 (some 31) (.move (.tmp 30)) 4 none ?_
        refine Tk.N 25 (some 32) (.move (.tmp 3)) 3 (some (24, true)) ?_
        refine Tk.N 26 (some 33) (.load 35 (.tmp 1)) 35 (some (24, true)) ?_
        refine Tk.N 27 (some 34) (.call ⟨.value (.func 49), #[.tmp 33], #[35]⟩) 26 (some (24, true)) ?_
        refine Tk.N 28 (some 35) (.call ⟨.builtin .len, #[.tmp 34], #[26]⟩) 3 (some (24, true)) ?_
        refine Tk.N 29 (some 36) (.binOp .sub 3 (.tmp 32) (.tmp 35) 3) 3 (some (24, true)) ?_
        refine Tk.N 30 (some 37) (.fieldAddr 35 (.tmp 1) 0) 0 (some (24, true)) ?_
        refine Tk.N 31 (some 38) (.fieldAddr 25 (.tmp 37) 1) 0 (some (24, true)) ?_
        refine Tk.N 32 (some 39) (.load 2 (.tmp 38)) 2 (some (24, true)) ?_
        refine Tk.N 33 (some 40) (.binOp .leq 3 (.tmp 36) (.tmp 39) 3) 4 (some (24, true)) ?_
        refine Tk.W 34 (some 41) (.pick (.tmp 31) (.tmp 40) (.const (.bool false))) 4 none ?_
        refine Tk.W 35 (some 42) (.move (.tmp 41)) 4 none ?_
        refine Tk.N 36 (some 43) (.load 35 (.tmp 1)) 35 (some (35, true)) ?_
        refine Tk.N 37 (some 44) (.call ⟨.value (.func 50), #[.tmp 43], #[35]⟩) 83 (some (35, true)) ?_
        refine Tk.N 38 (some 45) (.makeFunc (Fn.func 94) #[] #[.tmp 1]) 123 (some (35, true)) ?_
        refine Tk.N 39 (some 46) (.call ⟨.value (.func 93), #[.tmp 44, .tmp 45], #[83, 123]⟩) 4 (some (35, true)) ?_
        refine Tk.N 40 (some 47) (.unOp .not 4 (.tmp 46)) 4 (some (35, true)) ?_
        refine Tk.W 41 (some 48) (.pick (.tmp 42) (.tmp 47) (.const (.bool false))) 4 none ?_
        refine Tk.W 42 (some 2) (.assign (.tmp 48)) 4 none ?_
        refine wpAnyH_done (by kernel_rfl) ?_ _
        refine NoPanic.normal ?_
        have PX := hHeld.2.out
        clear hHeld
        go_wp2
        go_ret
        exact ⟨retb HV.out.symm, PX.B⟩
    · have HV : Hid (PS c = false) := ps_no (fun h => absurd h.1.2.1 h1)
      have v1 : ((c.zs.length : Int) == c.n) = false := by simp; omega
      clear hrm h1
      go_enter Tryz.func51, Tryz.ntmps51
      have k0 := PB.X.cell 0 rfl
      go_wp2_with fail
      clear k0
      generalize w.alloc (.cells #[.int .i64 c.n, .int .i64 c.f, .int .i64 c.p, .int .i64 c.a, .int .i64 c.l, .int .i64 c.m, .slice aK c.zs.length cK, .slice aL c.bs.length cL, .slice aP c.ps.length cP, .slice aQ c.qs.length cQ, .int .i64 c.now, .slice aM c.ms.length cM, .slice aF c.fs.length cF] 35) = w1 at PB ⊢
      refine wp_region_noPanic ?_
      refine wp_region_held_drew (S := (fun w' => (w'.cell? ⟨w.heap.size, 0, none⟩ = some (.int .i64 c.n) ∧ w'.cell? ⟨w.heap.size, 1, none⟩ = some (.int .i64 c.f) ∧ w'.cell? ⟨w.heap.size, 2, none⟩ = some (.int .i64 c.p) ∧ w'.cell? ⟨w.heap.size, 3, none⟩ = some (.int .i64 c.a) ∧ w'.cell? ⟨w.heap.size, 4, none⟩ = some (.int .i64 c.l) ∧ w'.cell? ⟨w.heap.size, 5, none⟩ = some (.int .i64 c.m) ∧ w'.cell? ⟨w.heap.size, 6, none⟩ = some (.slice aK c.zs.length cK) ∧ w'.cell? ⟨w.heap.size, 7, none⟩ = some (.slice aL c.bs.length cL) ∧ w'.cell? ⟨w.heap.size, 8, none⟩ = some (.slice aP c.ps.length cP) ∧ w'.cell? ⟨w.heap.size, 9, none⟩ = some (.slice aQ c.qs.length cQ) ∧ w'.cell? ⟨w.heap.size, 10, none⟩ = some (.int .i64 c.now) ∧ w'.cell? ⟨w.heap.size, 11, none⟩ = some (.slice aM c.ms.length cM) ∧ w'.cell? ⟨w.heap.size, 12, none⟩ = some (.slice aF c.fs.length cF)) ∧ Hid (Kb c aK aL aP aQ aM aF w w' [.int .i64 c.n, .int .i64 c.f, .int .i64 c.p, .int .i64 c.a, .int .i64 c.l, .int .i64 c.m, .slice aK c.zs.length cK, .slice aL c.bs.length cL, .slice aP c.ps.length cP, .slice aQ c.qs.length cQ, .int .i64 c.now, .slice aM c.ms.length cM, .slice aF c.fs.length cF]))) (by kernel_rfl) ⟨⟨(PB.below (Below.refl _ _).drew).X.cell 0 rfl, (PB.below (Below.refl _ _).drew).X.cell 1 rfl, (PB.below (Below.refl _ _).drew).X.cell 2 rfl, (PB.below (Below.refl _ _).drew).X.cell 3 rfl, (PB.below (Below.refl _ _).drew).X.cell 4 rfl, (PB.below (Below.refl _ _).drew).X.cell 5 rfl, (PB.below (Below.refl _ _).drew).X.cell 6 rfl, (PB.below (Below.refl _ _).drew).X.cell 7 rfl, (PB.below (Below.refl _ _).drew).X.cell 8 rfl, (PB.below (Below.refl _ _).drew).X.cell 9 rfl, (PB.below (Below.refl _ _).drew).X.cell 10 rfl, (PB.below (Below.refl _ _).drew).X.cell 11 rfl, (PB.below (Below.refl _ _).drew).X.cell 12 rfl⟩, (PB.below (Below.refl _ _).drew)⟩ (fun hHeld => ?_)
      refine Tk.W 0 (some 7) (.fieldAddr 35 (.tmp 1) 1) 0 none ?_
      refine Tk.W 1 (some 8) (.load 26 (.tmp 7)) 26 none ?_
      refine Tk.R 2 (some 9) (.call ⟨.value (.func 92), #[.tmp 8], #[26]⟩) 4 none (fun K hK => ?_)
      go_simp
      refine (Sl.i_KeysOk aK c.zs.length cK c.zs _ hHeld.2.out.A.K hz1).mono ?_
      rintro e wv ⟨rfl, bq13⟩
      rw [h0]
      have Pq13 := hHeld.2.out.below bq13
      try dsimp only
      refine hK.out _ _ ⟨⟨Pq13.X.cell 0 rfl, Pq13.X.cell 1 rfl, Pq13.X.cell 2 rfl, Pq13.X.cell 3 rfl, Pq13.X.cell 4 rfl, Pq13.X.cell 5 rfl, Pq13.X.cell 6 rfl, Pq13.X.cell 7 rfl, Pq13.X.cell 8 rfl, Pq13.X.cell 9 rfl, Pq13.X.cell 10 rfl, Pq13.X.cell 11 rfl, Pq13.X.cell 12 rfl⟩, Pq13⟩ ?_; clear hK K hHeld; intro hHeld; try simp only [Act.put, List.setIfInBounds_toArray, List.set_cons_zero, List.set_cons_succ]
      refine Tk.W 3 (some 10) (.move (.tmp 9)) 4 none ?_
      refine Tk.W 4 (some 11) (.fieldAddr 35 (.tmp 1) 1) 0 (some (3, true)) ?_
      refine Tk.W 5 (some 12) (.load 26 (.tmp 11)) 26 (some (3, true)) ?_
      refine Tk.W 6 (some 13) (.call ⟨.builtin .len, #[.tmp 12], #[26]⟩) 3 (some (3, true)) ?_
      refine Tk.W 7 (some 14) (.move (.tmp 3)) 3 (some (3, true)) ?_
      refine Tk.W 8 (some 15) (.binOp .eql 3 (.tmp 13) (.tmp 14) 3) 4 (some (3, true)) ?_
      refine Tk.W 9 (some 16) (.pick (.tmp 10) (.tmp 15) (.const (.bool false))) 4 none ?_
      refine Tk.W 10 (some 17) (.move (.tmp 16)) 4 none ?_
      refine Tk.N 11 (some 18) (.fieldAddr 35 (.tmp 1) 2) 0 (some (10, true)) ?_
      refine Tk.N 12 (some 19) (.load 27 (.tmp 18)) 27 (some (10, true)) ?_
      refine Tk.N 13 (some 20) (.call ⟨.builtin .len, #[.tmp 19], #[27]⟩) 3 (some (10, true)) ?_
      refine Tk.N 14 (some 21) (.move (.tmp 3)) 3 (some (10, true)) ?_
      refine Tk.N 15 (some 22) (.binOp .eql 3 (.tmp 20) (.tmp 21) 3) 4 (some (10, true)) ?_
      refine Tk.W 16 (some 23) (.pick (.tmp 17) (.tmp 22) (.const (.bool false))) 4 none ?_
      refine Tk.W 17 (some 24) (.move (.tmp 23)) 4 none ?_
      refine Tk.N 18 (some 25) (.fieldAddr 35 (.tmp 1) 3) 0 (some (17, true)) ?_
      refine Tk.N 19 (some 26) (.load 30 (.tmp 25)) 30 (some (17, true)) ?_
      refine Tk.N 20 (some 27) (.call ⟨.builtin .len, #[.tmp 26], #[30]⟩) 3 (some (17, true)) ?_
      refine Tk.N 21 (some 28) (.move (.tmp 3)) 3 (some (17, true)) ?_
      refine Tk.N 22 (some 29) (.binOp .eql 3 (.tmp 27) (.tmp 28) 3) 4 (some (17, true)) ?_
      refine Tk.W 23 (some 30) (.pick (.tmp 24) (.tmp 29) (.const (.bool false))) 4 none ?_
      refine Tk.W 24 (some 31) (.move (.tmp 30)) 4 none ?_
      refine Tk.N 25 (some 32) (.move (.tmp 3)) 3 (some (24, true)) ?_
      refine Tk.N 26 (some 33) (.load 35 (.tmp 1)) 35 (some (24, true)) ?_
      refine Tk.N 27 (some 34) (.call ⟨.value (.func 49), #[.tmp 33], #[35]⟩) 26 (some (24, true)) ?_
      refine Tk.N 28 (some 35) (.call ⟨.builtin .len, #[.tmp 34], #[26]⟩) 3 (some (24, true)) ?_
      refine Tk.N 29 (some 36) (.binOp .sub 3 (.tmp 32) (.tmp 35) 3) 3 (some (24, true)) ?_
      refine Tk.N 30 (some 37) (.fieldAddr 35 (.tmp 1) 0) 0 (some (24, true)) ?_
      refine Tk.N 31 (some 38) (.fieldAddr 25 (.tmp 37) 1) 0 (some (24, true)) ?_
      refine Tk.N 32 (some 39) (.load 2 (.tmp 38)) 2 (some (24, true)) ?_
      refine Tk.N 33 (some 40) (.binOp .leq 3 (.tmp 36) (.tmp 39) 3) 4 (some (24, true)) ?_
      refine Tk.W 34 (some 41) (.pick (.tmp 31) (.tmp 40) (.const (.bool false))) 4 none ?_
      refine Tk.W 35 (some 42) (.move (.tmp 41)) 4 none ?_
      refine Tk.N 36 (some 43) (.load 35 (.tmp 1)) 35 (some (35, true)) ?_
      refine Tk.N 37 (some 44) (.call ⟨.value (.func 50), #[.tmp 43], #[35]⟩) 83 (some (35, true)) ?_
      refine Tk.N 38 (some 45) (.makeFunc (Fn.func 94) #[] #[.tmp 1]) 123 (some (35, true)) ?_
      refine Tk.N 39 (some 46) (.call ⟨.value (.func 93), #[.tmp 44, .tmp 45], #[83, 123]⟩) 4 (some (35, true)) ?_
      refine Tk.N 40 (some 47) (.unOp .not 4 (.tmp 46)) 4 (some (35, true)) ?_
      refine Tk.W 41 (some 48) (.pick (.tmp 42) (.tmp 47) (.const (.bool false))) 4 none ?_
      refine Tk.W 42 (some 2) (.assign (.tmp 48)) 4 none ?_
      refine wpAnyH_done (by kernel_rfl) ?_ _
      refine NoPanic.normal ?_
      have PX := hHeld.2.out
      clear hHeld
      go_wp2
      go_ret
      exact ⟨retb HV.out.symm, PX.B⟩
  · have HV : Hid (PS c = false) := ps_no (fun h => absurd h.1.1 h0)
    have hF : KO c.zs c.zs.length = false := by simpa using h0
    clear hrm  h0
    go_enter Tryz.func51, Tryz.ntmps51
    have k0 := PB.X.cell 0 rfl
    go_wp2_with fail
    clear k0
    generalize w.alloc (.cells #[.int .i64 c.n, .int .i64 c.f, .int .i64 c.p, .int .i64 c.a, .int .i64 c.l, .int .i64 c.m, .slice aK c.zs.length cK, .slice aL c.bs.length cL, .slice aP c.ps.length cP, .slice aQ c.qs.length cQ, .int .i64 c.now, .slice aM c.ms.length cM, .slice aF c.fs.length cF] 35) = w1 at PB ⊢
    refine wp_region_noPanic ?_
    refine wp_region_held_drew (S := (fun w' => (w'.cell? ⟨w.heap.size, 0, none⟩ = some (.int .i64 c.n) ∧ w'.cell? ⟨w.heap.size, 1, none⟩ = some (.int .i64 c.f) ∧ w'.cell? ⟨w.heap.size, 2, none⟩ = some (.int .i64 c.p) ∧ w'.cell? ⟨w.heap.size, 3, none⟩ = some (.int .i64 c.a) ∧ w'.cell? ⟨w.heap.size, 4, none⟩ = some (.int .i64 c.l) ∧ w'.cell? ⟨w.heap.size, 5, none⟩ = some (.int .i64 c.m) ∧ w'.cell? ⟨w.heap.size, 6, none⟩ = some (.slice aK c.zs.length cK) ∧ w'.cell? ⟨w.heap.size, 7, none⟩ = some (.slice aL c.bs.length cL) ∧ w'.cell? ⟨w.heap.size, 8, none⟩ = some (.slice aP c.ps.length cP) ∧ w'.cell? ⟨w.heap.size, 9, none⟩ = some (.slice aQ c.qs.length cQ) ∧ w'.cell? ⟨w.heap.size, 10, none⟩ = some (.int .i64 c.now) ∧ w'.cell? ⟨w.heap.size, 11, none⟩ = some (.slice aM c.ms.length cM) ∧ w'.cell? ⟨w.heap.size, 12, none⟩ = some (.slice aF c.fs.length cF)) ∧ Hid (Kb c aK aL aP aQ aM aF w w' [.int .i64 c.n, .int .i64 c.f, .int .i64 c.p, .int .i64 c.a, .int .i64 c.l, .int .i64 c.m, .slice aK c.zs.length cK, .slice aL c.bs.length cL, .slice aP c.ps.length cP, .slice aQ c.qs.length cQ, .int .i64 c.now, .slice aM c.ms.length cM, .slice aF c.fs.length cF]))) (by kernel_rfl) ⟨⟨(PB.below (Below.refl _ _).drew).X.cell 0 rfl, (PB.below (Below.refl _ _).drew).X.cell 1 rfl, (PB.below (Below.refl _ _).drew).X.cell 2 rfl, (PB.below (Below.refl _ _).drew).X.cell 3 rfl, (PB.below (Below.refl _ _).drew).X.cell 4 rfl, (PB.below (Below.refl _ _).drew).X.cell 5 rfl, (PB.below (Below.refl _ _).drew).X.cell 6 rfl, (PB.below (Below.refl _ _).drew).X.cell 7 rfl, (PB.below (Below.refl _ _).drew).X.cell 8 rfl, (PB.below (Below.refl _ _).drew).X.cell 9 rfl, (PB.below (Below.refl _ _).drew).X.cell 10 rfl, (PB.below (Below.refl _ _).drew).X.cell 11 rfl, (PB.below (Below.refl _ _).drew).X.cell 12 rfl⟩, (PB.below (Below.refl _ _).drew)⟩ (fun hHeld => ?_)
    refine Tk.W 0 (some 7) (.fieldAddr 35 (.tmp 1) 1) 0 none ?_
    refine Tk.W 1 (some 8) (.load 26 (.tmp 7)) 26 none ?_
    refine Tk.R 2 (some 9) (.call ⟨.value (.func 92), #[.tmp 8], #[26]⟩) 4 none (fun K hK => ?_)
    go_simp
    refine (Sl.i_KeysOk aK c.zs.length cK c.zs _ hHeld.2.out.A.K hz1).mono ?_
    rintro e wv ⟨rfl, bq03⟩
    rw [hF]
    have Pq03 := hHeld.2.out.below bq03
    try dsimp only
    refine hK.out _ _ ⟨⟨Pq03.X.cell 0 rfl, Pq03.X.cell 1 rfl, Pq03.X.cell 2 rfl, Pq03.X.cell 3 rfl, Pq03.X.cell 4 rfl, Pq03.X.cell 5 rfl, Pq03.X.cell 6 rfl, Pq03.X.cell 7 rfl, Pq03.X.cell 8 rfl, Pq03.X.cell 9 rfl, Pq03.X.cell 10 rfl, Pq03.X.cell 11 rfl, Pq03.X.cell 12 rfl⟩, Pq03⟩ ?_; clear hK K hHeld; intro hHeld; try simp only [Act.put, List.setIfInBounds_toArray, List.set_cons_zero, List.set_cons_succ]
    refine Tk.W 3 (some 10) (.move (.tmp 9)) 4 none ?_
    refine Tk.N 4 (some 11) (.fieldAddr 35 (.tmp 1) 1) 0 (some (3, true)) ?_
    refine Tk.N 5 (some 12) (.load 26 (.tmp 11)) 26 (some (3, true)) ?_
    refine Tk.N 6 (some 13) (.call ⟨.builtin .len, #[.tmp 12], #[26]⟩) 3 (some (3, true)) ?_
    refine Tk.N 7 (some 14) (.move (.tmp 3)) 3 (some (3, true)) ?_
    refine Tk.N 8 (some 15) (.binOp .eql 3 (.tmp 13) (.tmp 14) 3) 4 (some (3, true)) ?_
    refine Tk.W 9 (some 16) (.pick (.tmp 10) (.tmp 15) (.const (.bool false))) 4 none ?_
    refine Tk.W 10 (some 17) (.move (.tmp 16)) 4 none ?_
    refine Tk.N 11 (some 18) (.fieldAddr 35 (.tmp 1) 2) 0 (some (10, true)) ?_
    refine Tk.N 12 (some 19) (.load 27 (.tmp 18)) 27 (some (10, true)) ?_
    refine Tk.N 13 (some 20) (.call ⟨.builtin .len, #[.tmp 19], #[27]⟩) 3 (some (10, true)) ?_
    refine Tk.N 14 (some 21) (.move (.tmp 3)) 3 (some (10, true)) ?_
    refine Tk.N 15 (some 22) (.binOp .eql 3 (.tmp 20) (.tmp 21) 3) 4 (some (10, true)) ?_
    refine Tk.W 16 (some 23) (.pick (.tmp 17) (.tmp 22) (.const (.bool false))) 4 none ?_
    refine Tk.W 17 (some 24) (.move (.tmp 23)) 4 none ?_
    refine Tk.N 18 (some 25) (.fieldAddr 35 (.tmp 1) 3) 0 (some (17, true)) ?_
    refine Tk.N 19 (some 26) (.load 30 (.tmp 25)) 30 (some (17, true)) ?_
    refine Tk.N 20 (some 27) (.call ⟨.builtin .len, #[.tmp 26], #[30]⟩) 3 (some (17, true)) ?_
    refine Tk.N 21 (some 28) (.move (.tmp 3)) 3 (some (17, true)) ?_
    refine Tk.N 22 (some 29) (.binOp .eql 3 (.tmp 27) (.tmp 28) 3) 4 (some (17, true)) ?_
    refine Tk.W 23 (some 30) (.pick (.tmp 24) (.tmp 29) (.const (.bool false))) 4 none ?_
    refine Tk.W 24 (some 31) (.move (.tmp 30)) 4 none ?_
    refine Tk.N 25 (some 32) (.move (.tmp 3)) 3 (some (24, true)) ?_
    refine Tk.N 26 (some 33) (.load 35 (.tmp 1)) 35 (some (24, true)) ?_
    refine Tk.N 27 (some 34) (.call ⟨.value (.func 49), #[.tmp 33], #[35]⟩) 26 (some (24, true)) ?_
    refine Tk.N 28 (some 35) (.call ⟨.builtin .len, #[.tmp 34], #[26]⟩) 3 (some (24, true)) ?_
    refine Tk.N 29 (some 36) (.binOp .sub 3 (.tmp 32) (.tmp 35) 3) 3 (some (24, true)) ?_
    refine Tk.N 30 (some 37) (.fieldAddr 35 (.tmp 1) 0) 0 (some (24, true)) ?_
    refine Tk.N 31 (some 38) (.fieldAddr 25 (.tmp 37) 1) 0 (some (24, true)) ?_
    refine Tk.N 32 (some 39) (.load 2 (.tmp 38)) 2 (some (24, true)) ?_
    refine Tk.N 33 (some 40) (.binOp .leq 3 (.tmp 36) (.tmp 39) 3) 4 (some (24, true)) ?_
    refine Tk.W 34 (some 41) (.pick (.tmp 31) (.tmp 40) (.const (.bool false))) 4 none ?_
    refine Tk.W 35 (some 42) (.move (.tmp 41)) 4 none ?_
    refine Tk.N 36 (some 43) (.load 35 (.tmp 1)) 35 (some (35, true)) ?_
    refine Tk.N 37 (some 44) (.call ⟨.value (.func 50), #[.tmp 43], #[35]⟩) 83 (some (35, true)) ?_
    refine Tk.N 38 (some 45) (.makeFunc (Fn.func 94) #[] #[.tmp 1]) 123 (some (35, true)) ?_
    refine Tk.N 39 (some 46) (.call ⟨.value (.func 93), #[.tmp 44, .tmp 45], #[83, 123]⟩) 4 (some (35, true)) ?_
    refine Tk.N 40 (some 47) (.unOp .not 4 (.tmp 46)) 4 (some (35, true)) ?_
    refine Tk.W 41 (some 48) (.pick (.tmp 42) (.tmp 47) (.const (.bool false))) 4 none ?_
    refine Tk.W 42 (some 2) (.assign (.tmp 48)) 4 none ?_
    refine wpAnyH_done (by kernel_rfl) ?_ _
    refine NoPanic.normal ?_
    have PX := hHeld.2.out
    clear hHeld
    go_wp2
    go_ret
    exact ⟨retb HV.out.symm, PX.B⟩

end Go.Proofs.YtimakfokgcnklaaGreat.Mi
