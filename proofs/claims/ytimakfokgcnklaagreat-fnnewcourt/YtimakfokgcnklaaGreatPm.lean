/-
  A list as MergedSeals leaves it, a peer: right or not (impl's).
-/
import Derived.Test.YtimakfokgcnklaaGreatIm1
import Derived.Test.YtimakfokgcnklaaGreatPe
import Derived.Test.YtimakfokgcnklaaGreatRu
import Derived.Test.YtimakfokgcnklaaGreatCs3
namespace Go.Proofs.YtimakfokgcnklaaGreat.Mi
open Go.ChangeShapes Go.WideShapes Go.ChangeAt Go.RowKit
open Ls (el Row)
open Rm (Room)
open Rd (Flags)
open Sb (S3 es es_ext fl sl Row3 SHas)
open Mg (MG RT neqS)
open Sl (KO SR lk_yes lk_no)
open Sp (LK IN retb)
open Ad (Tm)
open Ns (PD pd)
open Cd (MD in_yes in_no PK AR AT lk_iff)
set_option linter.unusedVariables false
set_option linter.unusedSimpArgs false

theorem i_isMerged (ak : Option Addr) (ck : Nat) (zs : List Int) (a : Option Addr) (n ca : Nat) (A : List S3) (w : World) (hk : Row w w.heap.size ak zs.length zs) (hnk : zs.length ≤ 1048576) (ha : Row3 w w.heap.size a n A) (hn : n ≤ 1048576) :
    Calls Tryz.prog 52 #[.slice ak zs.length ck, .slice a n ca] w fun e w' => e = .returned (.bool (MD zs A)) ∧ Below w.heap.size w w' := by
  have hle := Mg.mg_len (RT zs zs.length) A A.length
  rw [ha.1] at hle
  have HM : Hid (MD zs A = decide (A = MG (RT zs zs.length) A)) := rfl
  go_enter Tryz.func52, Tryz.ntmps52
  go_wp2_with fail
  refine (i_MergedSeals ak zs.length ck zs a n ca A none 0 0 [] _ hk hnk ha hn ⟨rfl, .inl rfl⟩ (by omega)).mono ?_
  rw [List.append_nil]
  rintro e w1 ⟨⟨g, c, rfl, O1⟩, b1⟩
  have hl2 : (MG (RT zs zs.length) A).length ≤ 3000000 := by have : (MG (RT zs zs.length) A).length ≤ A.length := Mg.mg_len _ _ _; rw [ha.1] at this; omega
  generalize MG (RT zs zs.length) A = l at O1 HM hl2 ⊢
  go_wp2_with fail
  refine (i_equal a (some ⟨g, 0, none⟩) n _ ca c A l _ (ha.below b1) O1.row (by omega) hl2).mono ?_
  rintro e w2 ⟨rfl, b2⟩
  rw [← HM.out]
  go_wp2
  go_ret
  exact ⟨rfl, b1.trans (b2.mono b1.size)⟩

theorem ar_an {y : Int} {S : List S3} : AN (fun k => LK y (y + 2) (es S k).1) S.length = false ↔ AR y S S.length := by
  rw [an_iff]
  exact ⟨fun h i hi => lk_iff.1 (h i hi), fun h i hi => lk_iff.2 (h i hi)⟩
theorem pk_all {zs : List Int} {x y : Int} {z : Bool} {S : List S3} (h1 : 1 ≤ y ∧ y ≤ 1000) (h2 : -1000000000000000 ≤ x ∧ x ≤ 1000000000000000) (h3 : MD zs S = true) : PK zs (x, y, z, S) = !AN (fun k => LK y (y + 2) (es S k).1) S.length := by
  by_cases q : AR y S S.length
  · rw [ar_an.2 q, Cd.pk_md h1 h2 q]; exact h3
  · rw [Cd.pk_ar q]
    cases e : AN (fun k => LK y (y + 2) (es S k).1) S.length with
    | true => rfl
    | false => exact absurd (ar_an.1 e) q
theorem pk_notmd {zs : List Int} {x y : Int} {z : Bool} {S : List S3} (h3 : MD zs S = false) : PK zs (x, y, z, S) = false := by unfold PK; rw [h3]; simp

set_option maxHeartbeats 4000000 in
theorem i_peerOk (ak : Option Addr) (ck : Nat) (zs : List Int) (x y : Int) (z : Bool) (aS : Option Addr) (cS : Nat) (S : List S3) (w : World) (hk : Row w w.heap.size ak zs.length zs) (hnk : zs.length ≤ 1048576) (hS : Row3 w w.heap.size aS S.length S) (hnS : S.length ≤ 1048576) :
    Calls Tryz.prog 179 #[.agg #[.int .i64 x, .int .i64 y, .bool z, .slice aS S.length cS], .slice ak zs.length ck] w fun e w' => e = .returned (.bool (PK zs (x, y, z, S))) ∧ Below w.heap.size w w' := by
  have BX := (Below.refl w.heap.size w).alloc (Nat.le_refl _) (.cells #[.int .i64 x, .int .i64 y, .bool z, .slice aS S.length cS] 44)
  obtain ⟨xx, hxx⟩ : ∃ xx, xx = IntKind.i64.wrap (y + 2) := ⟨_, rfl⟩
  have hw : IntKind.i64.wrap (y + 2) = xx := hxx.symm
  have HX : Hid (1 ≤ y ∧ y ≤ 1000 → xx = y + 2) := fun h => by rw [hxx, IntKind.wrap_i64]; omega
  clear hxx
  have PP := ((Room.new w [.int .i64 x, .int .i64 y, .bool z, .slice aS S.length cS] 44).alloc (.cells #[.int .i64 y, .int .i64 xx] 79))
  have PS := Room.at (w.alloc (.cells #[.int .i64 x, .int .i64 y, .bool z, .slice aS S.length cS] 44)) [.int .i64 y, .int .i64 xx] 79 (w.heap.size + 1) (by simp)
  have BB : Below w.heap.size w ((w.alloc (.cells #[.int .i64 x, .int .i64 y, .bool z, .slice aS S.length cS] 44)).alloc (.cells #[.int .i64 y, .int .i64 xx] 79)) := BX.alloc (by simp) _
  go_enter Tryz.func179, Tryz.ntmps179
  have c1 := (Room.new w [.int .i64 x, .int .i64 y, .bool z, .slice aS S.length cS] 44).cell 1 rfl
  have HX1 := hid BX
  clear BX
  go_wp2_with fail
  generalize (w.alloc (.cells #[.int .i64 x, .int .i64 y, .bool z, .slice aS S.length cS] 44)).alloc (.cells #[.int .i64 y, .int .i64 xx] 79) = w1 at PP PS BB ⊢
  clear c1 hw
  by_cases h2 : -1000000000000000 ≤ x ∧ x ≤ 1000000000000000
  case neg =>
    have HV : Hid (PK zs (x, y, z, S) = false) := Cd.pk_off h2
    have e0 : Hid (IN (-1000000000000000) 1000000000000000 x = false) := in_no h2
    clear h2
    refine (Sp.i_InSpan (-1000000000000000) 1000000000000000 x _).mono ?_
    rintro e w2 ⟨rfl, b2⟩
    rw [e0.out]
    replace PP := PP.below b2
    replace PS := PS.below b2
    replace BB := BB.trans (b2.mono BB.size)
    clear b2 
    go_wp2
    go_ret
    exact ⟨retb HV.out.symm, BB⟩
  case pos =>
    have H2 : Hid (-1000000000000000 ≤ x ∧ x ≤ 1000000000000000) := h2
    have e0 : Hid (IN (-1000000000000000) 1000000000000000 x = true) := in_yes (by unfold Tm; omega) (by unfold Tm; omega) h2
    clear h2
    refine (Sp.i_InSpan (-1000000000000000) 1000000000000000 x _).mono ?_
    rintro e w2 ⟨rfl, b2⟩
    rw [e0.out]
    replace PP := PP.below b2
    replace PS := PS.below b2
    replace BB := BB.trans (b2.mono BB.size)
    clear b2 
    have p1 := PP.cell 1 rfl
    go_wp2_with fail
    clear p1
    by_cases h1 : 1 ≤ y ∧ y ≤ 1000
    case neg =>
      have HV : Hid (PK zs (x, y, z, S) = false) := Cd.pk_next h1
      have e1 : Hid (IN 1 1000 y = false) := in_no h1
      clear h1
      refine (Sp.i_InSpan 1 1000 y _).mono ?_
      rintro e w3 ⟨rfl, b3⟩
      rw [e1.out]
      replace PP := PP.below b3
      replace PS := PS.below b3
      replace BB := BB.trans (b3.mono BB.size)
      clear b3 
      go_wp2
      go_ret
      exact ⟨retb HV.out.symm, BB⟩
    case pos =>
      have H1 : Hid (1 ≤ y ∧ y ≤ 1000) := h1
      have e1 : Hid (IN 1 1000 y = true) := in_yes (by unfold Tm; omega) (by unfold Tm; omega) h1
      clear h1
      refine (Sp.i_InSpan 1 1000 y _).mono ?_
      rintro e w3 ⟨rfl, b3⟩
      rw [e1.out]
      replace PP := PP.below b3
      replace PS := PS.below b3
      replace BB := BB.trans (b3.mono BB.size)
      clear b3 
      have p3 := PP.cell 3 rfl
      go_wp2_with fail
      clear p3
      refine (i_isMerged ak ck zs aS S.length cS S _ ((hk.later BB (Nat.le_refl _)).more BB.size) hnk (hS.below BB) hnS).mono ?_
      rintro e w4 ⟨rfl, b4⟩
      replace PP := PP.below b4
      replace PS := PS.below b4
      replace BB := BB.trans (b4.mono BB.size)
      clear b4 
      cases hm : MD zs S with
      | false =>
        have HV : Hid (PK zs (x, y, z, S) = false) := pk_notmd hm
        clear hm
        go_wp2
        go_ret
        exact ⟨retb HV.out.symm, BB⟩
      | true =>
        have HV : Hid (PK zs (x, y, z, S) = !AN (fun k => LK y (y + 2) (es S k).1) S.length) := pk_all H1.out H2.out hm
        clear hm
        have p3 := PP.cell 3 rfl
        go_wp2_with fail
        clear p3
        have hxy := HX.out H1.out
        subst hxy
        refine (containsKept (w.heap.size + 1) aS S.length cS (fun k => LK y (y + 2) (es S k).1) _ hnS (fun k hk => ?_)).mono ?_
        · obtain ⟨b, off, rfl, hc⟩ := row3_he (hS.below BB) hk
          exact ⟨b, off, _, _, _, rfl, hc, fun w' B' => keptF (w.heap.size + 1) y (y + 2) _ _ _ w' ((PS.below B').cell 0 rfl) ((PS.below B').cell 1 rfl)⟩
        · rintro e w5 ⟨rfl, b5⟩
          replace BB := BB.trans (b5.mono BB.size)
          clear b5
          go_wp2
          go_ret
          exact ⟨retb HV.out.symm, BB⟩

end Go.Proofs.YtimakfokgcnklaaGreat.Mi
