/-
  impl.MergedSeals: all that are right, merged.
-/
import Derived.Test.YtimakfokgcnklaaGreatCc
import Derived.Test.YtimakfokgcnklaaGreatCp2
namespace Go.Proofs.YtimakfokgcnklaaGreat.Mi
open Go.ChangeShapes Go.WideShapes Go.ChangeAt Go.RowKit
open Ls (Row)
open Rm (Room)
open Sb (S3 es fl sl Row3 SHas)
open Og (OwnS)
open Mg
set_option linter.unusedVariables false
set_option linter.unusedSimpArgs false

/-- What has been sorted and compacted is what is asked. -/
theorem merged_of (zs : List Int) (nk : Nat) {A l : List S3} (hp : l.Perm (A.filter (RT zs nk))) (hs : l.Pairwise fun a b => ¬ AH b a) {n : Nat} (hn : n = l.length) : cmk l n = MG (RT zs nk) A := by
  subst hn
  have hT := rt_tells zs nk
  have hm : ∀ x, x ∈ l ↔ x ∈ A ∧ RT zs nk x = true := fun x => by rw [hp.mem_iff, List.mem_filter]
  refine MG_of hT (cmk_up hT (fun x hx => ((hm x).1 hx).2) hs (Nat.le_refl _)) fun x => ?_
  rw [cmk_mem (Nat.le_refl _), List.take_length, hm]

set_option maxHeartbeats 4000000 in
theorem i_MergedSeals (ak : Option Addr) (nk ck : Nat) (zs : List Int) (a : Option Addr) (n ca : Nat) (A : List S3) (b : Option Addr) (m cb : Nat) (B : List S3) (w : World) (hk : Row w w.heap.size ak nk zs) (hnk : nk ≤ 1048576) (ha : Row3 w w.heap.size a n A) (hn : n ≤ 1048576) (hb : Row3 w w.heap.size b m B) (hm : m ≤ 1048576) :
    Calls Tryz.prog 96 #[.slice ak nk ck, .slice a n ca, .slice b m cb] w fun e w' => (∃ g c, e = .returned (.slice (some ⟨g, 0, none⟩) (MG (RT zs nk) (A ++ B)).length c) ∧ OwnS w' w.heap.size g (MG (RT zs nk) (A ++ B)).length c (MG (RT zs nk) (A ++ B))) ∧ Below w.heap.size w w' := by
  have B1 := (Below.refl w.heap.size w).alloc (Nat.le_refl _) (.cells #[.slice a n ca, .slice b m cb] 32)
  have RA := Room.new w [.slice a n ca, .slice b m cb] 32
  have hab : (A ++ B).length = n + m := by rw [List.length_append, ha.1, hb.1]
  go_enter Tryz.func96, Tryz.ntmps96
  go_wp2_with fail
  refine (concat w.heap.size a n ca A b m cb B _ (RA.cell 0 rfl) (RA.cell 1 rfl) (by simp) ((ha.later B1 (Nat.le_refl _)).more B1.size) hn ((hb.later B1 (Nat.le_refl _)).more B1.size) hm).mono ?_
  rintro e w2 ⟨⟨v, c, rfl, R2⟩, b2⟩
  replace B1 := B1.trans (b2.mono B1.size)
  clear b2 RA
  go_wp2_with fail
  refine (rightSeals ak nk ck zs v (n + m) c (A ++ B) _ ((hk.later B1 (Nat.le_refl _)).more B1.size) hnk R2 (by omega)).mono ?_
  rintro e w3 ⟨⟨g, c3, rfl, O3⟩, b3⟩
  have O3' := Og.own_low O3 B1.size
  replace B1 := B1.trans (b3.mono B1.size)
  clear b3 O3
  have hle : ((A ++ B).filter (RT zs nk)).length ≤ n + m := by rw [← hab]; exact List.length_filter_le _ _
  have HM : Hid (∀ l : List S3, l.Perm ((A ++ B).filter (RT zs nk)) → (l.Pairwise fun a b => ¬ AH b a) → cmk l ((A ++ B).filter (RT zs nk)).length = MG (RT zs nk) (A ++ B)) := fun l hp hs => merged_of zs nk hp hs hp.length_eq.symm
  generalize (A ++ B).filter (RT zs nk) = l at O3' HM hle ⊢
  go_wp2_with fail
  refine (sortSeals g c3 w.heap.size l _ O3' (by omega)).mono ?_
  rintro e w4 ⟨rfl, ⟨l2, hp, hs, O4⟩, b4⟩
  replace B1 := B1.trans b4
  have HE : Hid (cmk l2 l.length = MG (RT zs nk) (A ++ B)) := HM.out l2 hp hs
  clear HM hp hs O3' b4
  go_wp2_with fail
  refine (compact g l.length c3 w.heap.size l2 _ O4 (by omega)).mono ?_
  rintro e w5 ⟨⟨rfl, O5⟩, b5⟩
  rw [HE.out] at O5 ⊢
  go_wp2
  go_ret
  exact ⟨⟨g, c3, rfl, O5⟩, B1.trans b5⟩

end Go.Proofs.YtimakfokgcnklaaGreat.Mi
