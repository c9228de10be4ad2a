/-
  FnNewWorld: for every code of bytes handed in, what is drawn of it makes impl.NewWorld and spec.NewWorld answer alike; in a new world nobody is down, those lie that shall, all others are up with their offs, and these lie within the span that is told; the call returns true, and nothing that was there ahead of it is written.
-/
import Derived.Test.YtloicicgcdfgnaaRows
import Derived.WalkKit
import Derived.ProofKit
import Derived.OpenShut
import Derived.ShutString
import Derived.ChangeOld
import Derived.Below
import Derived.Test.YtloicicgcdfgnaaDN5
import Derived.Test.YtloicicgcdfgnaaFn5
import Derived.Test.YtloicicgcdfgnaaWdAll
namespace Go.Proofs.Ytloicicgcdfgnaa.fnNewWorld
open Go.ChangeShapes Go.WideShapes Go.ChangeAt Go.RowKit
open Go.ChangeMaps (open_string shut_string)
set_option linter.unusedVariables false
set_option linter.unusedSimpArgs false

theorem own : ownKnob Try.prog.godebug = none := by kernel_rfl
theorem laidOut : laidOutB Try.prog = true := by kernel_rfl

/-- WHAT THE WALK IS TOLD OF A SLICE OF INTEGERS THAT CAME IN: it is nil; or it leads to a row of 'cap' cells, the numbers 'zs' (the first 'len' are its elements, the rest its spare room), each fitting its kind. -/
def IsRow (k : IntKind) (w : World) (a : Option Addr) (len cap : Nat) (zs : List Int) : Prop :=
  (a = none ∧ len = 0 ∧ cap = 0 ∧ zs = []) ∨
  ∃ x, a = some x ∧ len ≤ cap ∧ cap ≤ maxLen ∧ zs.length = cap ∧ (∀ i, i < zs.length → w.cell? (x.add i) = some (.int k (zs.getD i 0))) ∧ ∀ n ∈ zs, (Lit.int k n).wf = true

open Ls (el Row)
theorem code_of {w : World} {a : Option Addr} {len cap : Nat} {zs : List Int} (h : IsRow .u8 w a len cap zs) (hl : len ≤ 4096) : Dr.Code w w.heap.size a len := by
  refine ⟨hl, ?_⟩
  rcases h with ⟨_, h, _, _⟩ | ⟨x, rfl, h1, h2, h3, h4, h5⟩
  · exact .inl h
  · by_cases h0 : len = 0
    · exact .inl h0
    · obtain ⟨b, off, spot⟩ := x
      have hc := h4 0 (by omega)
      have hs : spot = none := by simpa [Addr.add] using World.cell?_spot hc
      subst hs
      have hb := World.block_lt_of_cell? _ _ hc
      refine .inr ⟨b, off, rfl, by simpa [Addr.add] using hb, fun k hk => ⟨zs.getD k 0, ?_, ?_⟩⟩
      · have hk4 := h4 k (by omega)
        by_cases hk0 : k = 0
        · subst hk0; simpa [Addr.add] using hk4
        · simpa [Addr.add, hk0] using hk4
      · have e : zs.getD k 0 = zs[k]'(by omega) := by simp [List.getD, show k < zs.length by omega]
        refine bounds_u8 (h5 _ ?_)
        rw [e]
        exact List.getElem_mem _

theorem small (a : Option Addr) (len cap : Nat) (h : len ≤ 4096) (w : World) : Calls Try.prog 12 #[.slice a len cap] w fun e w' => e = .returned (.bool false) ∧ w' = w := by
  have h' : ¬ (4096 : Int) < len := by omega
  go_enter Try.func12, Try.ntmps12
  go_wp2
  go_ret
  exact ⟨rfl, rfl⟩

theorem great (a : Option Addr) (len cap : Nat) (h : ¬ len ≤ 4096) (w : World) : Calls Try.prog 12 #[.slice a len cap] w fun e w' => e = .returned (.bool true) ∧ w' = w := by
  have h' : (4096 : Int) < len := by omega
  go_enter Try.func12, Try.ntmps12
  go_wp2
  go_ret
  exact ⟨rfl, rfl⟩


theorem has_true {g LU cU : Nat} {U : List Int} {x : Int} {w : World} (hr : Row w w.heap.size (some ⟨g, 0, none⟩) LU U) (hn : LU ≤ 1048576) (h : Wl.hasK U x LU = false) : Calls Try.prog 33 #[.slice (some ⟨g, 0, none⟩) LU cU, .int .i64 x] w fun e w' => e = .returned (.bool false) ∧ w' = w :=
  (Wl.has _ LU cU U x w hr hn).mono fun e w' ⟨h1, h2⟩ => ⟨by rw [h1, h], h2⟩
theorem has_false {g LU cU : Nat} {U : List Int} {x : Int} {w : World} (hr : Row w w.heap.size (some ⟨g, 0, none⟩) LU U) (hn : LU ≤ 1048576) (h : Wl.hasK U x LU = true) : Calls Try.prog 33 #[.slice (some ⟨g, 0, none⟩) LU cU, .int .i64 x] w fun e w' => e = .returned (.bool true) ∧ w' = w :=
  (Wl.has _ LU cU U x w hr hn).mono fun e w' ⟨h1, h2⟩ => ⟨by rw [h1, h], h2⟩

/-! The walk. -/
set_option maxHeartbeats 20000000 in
set_option maxRecDepth 100000 in
theorem walk (a0 : Option Addr) (len0 cap0 : Nat) (z0 : List Int) (w : World) (w0 : IsRow .u8 w a0 len0 cap0 z0) :
    Calls Try.prog 5 #[.slice a0 len0 cap0] w fun e w' => e = .returned (.bool true) ∧ Below w.heap.size w w' := by
  by_cases hl : len0 ≤ 4096
  case neg =>
    go_enter Try.func5, Try.ntmps5
    go_wp2_with fail
    refine (great a0 len0 cap0 hl _).mono ?_
    rintro e w ⟨rfl, rfl⟩
    go_wp2
    go_ret
    exact ⟨rfl, Below.refl _ _⟩
  case pos =>
    have code := code_of w0 hl
    clear w0
    go_enter Try.func5, Try.ntmps5
    go_wp2_with fail
    refine (small a0 len0 cap0 hl _).mono ?_
    rintro e w ⟨rfl, rfl⟩
    go_wp2_with fail
    refine (Dr.drawNewWorld _ a0 len0 cap0 _ (Nat.le_refl _) code).mono ?_
    rintro e w1 ⟨⟨n, l, d, r, q, s, gO, m, cO, gL, k, cL, rfl, HD⟩, BB⟩
    obtain ⟨⟨os, oO⟩, ⟨bs, pL⟩, m17, k18⟩ := HD.out
    clear HD code
    have pO := oO.has
    clear oO
    have lo_pO := pO.2.1
    have hi_pO := pO.2.2.1
    have lo_pL := pL.2.1
    have hi_pL := pL.2.2.1
    have hzm := pO.1
    have hzk := pL.1
    go_wp2_with fail
    have bn1 := (Below.refl w1.heap.size w1).alloc (Nat.le_refl _) (.cells #[.int .i64 n, .int .i64 l, .int .i64 d, .int .i64 r, .int .i64 q, .int .i64 s] 28)
    have z_bn1 := bn1.size
    have RC := Rm.Room.new w1 [.int .i64 n, .int .i64 l, .int .i64 d, .int .i64 r, .int .i64 q, .int .i64 s] 28
    replace pO := pO.later bn1 pO.2.2.1
    replace pL := pL.later bn1 pL.2.2.1
    replace BB := BB.trans (bn1.mono BB.size)
    refine (Wl.i_NewWorld n l d r q s gO 0 m cO _ k cL bs os _ hzm pO.2.2.2.1 pO.2.2.1 pL.row (by omega) (by omega)).mono ?_
    rintro e x11 ⟨⟨hFG, hTG⟩, b11⟩
    have z_b11 := b11.size
    (try simp at z_b11)
    replace RC := RC.below b11
    replace pO := pO.later b11 pO.2.2.1
    replace pL := pL.later b11 pL.2.2.1
    replace BB := BB.trans (b11.mono BB.size)
    cases hq : Wl.WO n l d r q s (Wl.KL bs) k os m 0 with
    | false =>
      obtain rfl := hFG hq
      clear hFG hTG
      have cRC0 := RC.cell 0 rfl
      have cRC1 := RC.cell 1 rfl
      have cRC2 := RC.cell 2 rfl
      have cRC3 := RC.cell 3 rfl
      have cRC4 := RC.cell 4 rfl
      have cRC5 := RC.cell 5 rfl
      have lRC := RC.lt (by simp)
      go_wp2_with fail
      clear cRC0 cRC1 cRC2 cRC3 cRC4 cRC5 lRC
      have bn2 := (Below.refl x11.heap.size x11).alloc (Nat.le_refl _) (.cells #[.int .i64 0, .int .i64 0, .int .i64 0, .int .i64 0, .int .i64 0, .int .i64 0, .slice none 0 0, .slice none 0 0, .int .i64 0] 31)
      have z_bn2 := bn2.size
      have RG := Rm.Room.new x11 [.int .i64 0, .int .i64 0, .int .i64 0, .int .i64 0, .int .i64 0, .int .i64 0, .slice none 0 0, .slice none 0 0, .int .i64 0] 31
      replace RC := RC.below bn2
      replace pO := pO.later bn2 pO.2.2.1
      replace pL := pL.later bn2 pL.2.2.1
      replace BB := BB.trans (bn2.mono BB.size)
      refine (Wl.s_NewWorld n l d r q s gO 0 m cO _ k cL bs os _ hzm pO.2.2.2.1 pO.2.2.1 pL.row (by omega) (by omega)).mono ?_
      rintro e xf ⟨⟨hFA, hTA⟩, bf⟩
      have z_bf := bf.size
      (try simp at z_bf)
      replace RC := RC.below bf
      replace RG := RG.below bf
      replace pO := pO.later bf pO.2.2.1
      replace pL := pL.later bf pL.2.2.1
      replace BB := BB.trans (bf.mono BB.size)
      obtain rfl := hFA hq
      clear hFA hTA
      have cRG0 := RG.cell 0 rfl
      have cRG1 := RG.cell 1 rfl
      have cRG2 := RG.cell 2 rfl
      have cRG3 := RG.cell 3 rfl
      have cRG4 := RG.cell 4 rfl
      have cRG5 := RG.cell 5 rfl
      have cRG6 := RG.cell 6 rfl
      have cRG7 := RG.cell 7 rfl
      have cRG8 := RG.cell 8 rfl
      have lRG := RG.lt (by simp)
      have lp := BB.size
      have BZ := BB.alloc BB.size (.cells #[.int .i64 0, .int .i64 0, .int .i64 0, .int .i64 0, .int .i64 0, .int .i64 0, .slice none 0 0, .slice none 0 0, .int .i64 0] 31)
      go_wp2
      go_ret
      exact ⟨rfl, BZ⟩
    | true =>
      obtain ⟨gK, gA, cK, cA, rfl, pK, pA, neKA, -, -⟩ := hTG hq
      clear hFG hTG
      have lo_pK := pK.2.1
      have hi_pK := pK.2.2.1
      have lo_pA := pA.2.1
      have hi_pA := pA.2.2.1
      (try simp at lo_pK lo_pA)
      have cRC0 := RC.cell 0 rfl
      have cRC1 := RC.cell 1 rfl
      have cRC2 := RC.cell 2 rfl
      have cRC3 := RC.cell 3 rfl
      have cRC4 := RC.cell 4 rfl
      have cRC5 := RC.cell 5 rfl
      have lRC := RC.lt (by simp)
      go_wp2_with fail
      clear cRC0 cRC1 cRC2 cRC3 cRC4 cRC5 lRC
      have bn2 := (Below.refl x11.heap.size x11).alloc (Nat.le_refl _) (.cells #[.int .i64 n, .int .i64 l, .int .i64 d, .int .i64 r, .int .i64 q, .int .i64 s, .slice (some ⟨gK, 0, none⟩) k cK, .slice (some ⟨gA, 0, none⟩) m cA, .int .i64 0] 31)
      have z_bn2 := bn2.size
      have RG := Rm.Room.new x11 [.int .i64 n, .int .i64 l, .int .i64 d, .int .i64 r, .int .i64 q, .int .i64 s, .slice (some ⟨gK, 0, none⟩) k cK, .slice (some ⟨gA, 0, none⟩) m cA, .int .i64 0] 31
      replace RC := RC.below bn2
      replace pO := pO.later bn2 pO.2.2.1
      replace pL := pL.later bn2 pL.2.2.1
      replace pK := pK.later bn2 pK.2.2.1
      replace pA := pA.later bn2 pA.2.2.1
      replace BB := BB.trans (bn2.mono BB.size)
      refine (Wl.s_NewWorld n l d r q s gO 0 m cO _ k cL bs os _ hzm pO.2.2.2.1 pO.2.2.1 pL.row (by omega) (by omega)).mono ?_
      rintro e x20 ⟨⟨hFA, hTA⟩, b20⟩
      have z_b20 := b20.size
      (try simp at z_b20)
      replace RC := RC.below b20
      replace RG := RG.below b20
      replace pO := pO.later b20 pO.2.2.1
      replace pL := pL.later b20 pL.2.2.1
      replace pK := pK.later b20 pK.2.2.1
      replace pA := pA.later b20 pA.2.2.1
      replace BB := BB.trans (b20.mono BB.size)
      obtain ⟨gK2, gA2, cK2, cA2, rfl, pK2, pA2, neKA2, -, -⟩ := hTA hq
      clear hFA hTA pK2 pA2 neKA2
      clear RC
      have cRG0 := RG.cell 0 rfl
      have cRG1 := RG.cell 1 rfl
      have cRG2 := RG.cell 2 rfl
      have cRG3 := RG.cell 3 rfl
      have cRG4 := RG.cell 4 rfl
      have cRG5 := RG.cell 5 rfl
      have cRG6 := RG.cell 6 rfl
      have cRG7 := RG.cell 7 rfl
      have cRG8 := RG.cell 8 rfl
      have lRG := RG.lt (by simp)
      go_wp2_with fail
      clear cRG0 cRG1 cRG2 cRG3 cRG4 cRG5 cRG6 cRG7 cRG8 lRG
      have bn3 := (Below.refl x20.heap.size x20).alloc (Nat.le_refl _) (.cells #[.int .i64 n, .int .i64 l, .int .i64 d, .int .i64 r, .int .i64 q, .int .i64 s, .slice (some ⟨gK2, 0, none⟩) k cK2, .slice (some ⟨gA2, 0, none⟩) m cA2, .int .i64 0] 31)
      have z_bn3 := bn3.size
      have RY := Rm.Room.new x20 [.int .i64 n, .int .i64 l, .int .i64 d, .int .i64 r, .int .i64 q, .int .i64 s, .slice (some ⟨gK2, 0, none⟩) k cK2, .slice (some ⟨gA2, 0, none⟩) m cA2, .int .i64 0] 31
      replace RG := RG.below bn3
      replace pO := pO.later bn3 pO.2.2.1
      replace pL := pL.later bn3 pL.2.2.1
      replace pK := pK.later bn3 pK.2.2.1
      replace pA := pA.later bn3 pA.2.2.1
      replace BB := BB.trans (bn3.mono BB.size)
      clear RY
      have hkm := (Wl.right hq).1
      subst hkm
      refine (Wl.i_UpIn n l d r q s 0 _ _ k cK k cA (Wl.KL bs) os _ pK.row pA.row (by omega) (by omega)).mono ?_
      rintro e x21 ⟨⟨gU, cU, rfl, oU⟩, b21⟩
      have z_b21 := b21.size
      (try simp at z_b21)
      replace RG := RG.below b21
      replace pO := pO.later b21 pO.2.2.1
      replace pL := pL.later b21 pL.2.2.1
      replace pK := pK.later b21 pK.2.2.1
      replace pA := pA.later b21 pA.2.2.1
      replace BB := BB.trans (b21.mono BB.size)
      have pU := oU.has
      clear oU
      have lo_pU := pU.2.1
      have hi_pU := pU.2.2.1
      have cRG0 := RG.cell 0 rfl
      have cRG1 := RG.cell 1 rfl
      have cRG2 := RG.cell 2 rfl
      have cRG3 := RG.cell 3 rfl
      have cRG4 := RG.cell 4 rfl
      have cRG5 := RG.cell 5 rfl
      have cRG6 := RG.cell 6 rfl
      have cRG7 := RG.cell 7 rfl
      have cRG8 := RG.cell 8 rfl
      have lRG := RG.lt (by simp)
      go_wp2_with fail
      refine (Wl.i_OffsOf n l d r q s 0 _ _ k cK k cA (Wl.KL bs) os _ pK.row pA.row (by omega) (by omega)).mono ?_
      rintro e x22 ⟨⟨gV, ⟨cV, rfl⟩, pV⟩, b22⟩
      clear cRG0 cRG1 cRG2 cRG3 cRG4 cRG5 cRG6 cRG7 cRG8 lRG
      have z_b22 := b22.size
      (try simp at z_b22)
      replace RG := RG.below b22
      replace pO := pO.later b22 pO.2.2.1
      replace pL := pL.later b22 pL.2.2.1
      replace pK := pK.later b22 pK.2.2.1
      replace pA := pA.later b22 pA.2.2.1
      replace pU := pU.later b22 pU.2.2.1
      replace BB := BB.trans (b22.mono BB.size)
      have lo_pV := pV.2.1
      have hi_pV := pV.2.2.1
      have cRG0 := RG.cell 0 rfl
      have cRG1 := RG.cell 1 rfl
      have cRG2 := RG.cell 2 rfl
      have cRG3 := RG.cell 3 rfl
      have cRG4 := RG.cell 4 rfl
      have cRG5 := RG.cell 5 rfl
      have cRG6 := RG.cell 6 rfl
      have cRG7 := RG.cell 7 rfl
      have cRG8 := RG.cell 8 rfl
      have lRG := RG.lt (by simp)
      go_wp2_with fail
      refine (Wl.i_SpanOf n l d r q s 0 _ _ k cK k cA (Wl.KL bs) os _ pK.row pA.row (by omega) (by omega)).mono ?_
      rintro e x23 ⟨rfl, b23⟩
      clear cRG0 cRG1 cRG2 cRG3 cRG4 cRG5 cRG6 cRG7 cRG8 lRG
      have z_b23 := b23.size
      (try simp at z_b23)
      replace RG := RG.below b23
      replace pO := pO.later b23 pO.2.2.1
      replace pL := pL.later b23 pL.2.2.1
      replace pK := pK.later b23 pK.2.2.1
      replace pA := pA.later b23 pA.2.2.1
      replace pU := pU.later b23 pU.2.2.1
      replace pV := pV.later b23 pV.2.2.1
      replace BB := BB.trans (b23.mono BB.size)
      obtain ⟨-, hUL, hHT, hlh⟩ := Wl.right hq
      rw [hHT]
      clear hHT
      have HP : Hid (_ ∧ _) := ⟨hUL, hlh⟩
      clear hUL hlh
      have cRG0 := RG.cell 0 rfl
      have cRG1 := RG.cell 1 rfl
      have cRG2 := RG.cell 2 rfl
      have cRG3 := RG.cell 3 rfl
      have cRG4 := RG.cell 4 rfl
      have cRG5 := RG.cell 5 rfl
      have cRG6 := RG.cell 6 rfl
      have cRG7 := RG.cell 7 rfl
      have cRG8 := RG.cell 8 rfl
      have lRG := RG.lt (by simp)
      go_wp2_with fail
      clear cRG0 cRG1 cRG2 cRG3 cRG4 cRG5 cRG6 cRG7 cRG8 lRG
      have bn4 := (Below.refl x23.heap.size x23).alloc (Nat.le_refl _) (.cells #[.int .i64 (Wl.lo (Wl.OL n l d r q s (Wl.KL bs) k os k 0)), .int .i64 (Wl.hi (Wl.OL n l d r q s (Wl.KL bs) k os k 0))] 55)
      have z_bn4 := bn4.size
      have RS := Rm.Room.new x23 [.int .i64 (Wl.lo (Wl.OL n l d r q s (Wl.KL bs) k os k 0)), .int .i64 (Wl.hi (Wl.OL n l d r q s (Wl.KL bs) k os k 0))] 55
      replace RG := RG.below bn4
      replace pO := pO.later bn4 pO.2.2.1
      replace pL := pL.later bn4 pL.2.2.1
      replace pK := pK.later bn4 pK.2.2.1
      replace pA := pA.later bn4 pA.2.2.1
      replace pU := pU.later bn4 pU.2.2.1
      replace pV := pV.later bn4 pV.2.2.1
      replace BB := BB.trans (bn4.mono BB.size)
      refine (Wl.i_WorldOk n l d r q s 0 _ _ k cK k cA (Wl.KL bs) os _ pK.row pA.row (by omega) (by omega)).mono ?_
      rintro e x24 ⟨rfl, b24⟩
      have z_b24 := b24.size
      (try simp at z_b24)
      replace RG := RG.below b24
      replace RS := RS.below b24
      replace pO := pO.later b24 pO.2.2.1
      replace pL := pL.later b24 pL.2.2.1
      replace pK := pK.later b24 pK.2.2.1
      replace pA := pA.later b24 pA.2.2.1
      replace pU := pU.later b24 pU.2.2.1
      replace pV := pV.later b24 pV.2.2.1
      replace BB := BB.trans (b24.mono BB.size)
      rw [hq]
      obtain ⟨hUL, hlh⟩ := HP.out
      clear HP
      have hLU := Wl.smallU n l d r q s (Wl.KL bs) k os k 0 (by omega)
      have hLO := Wl.ol_len n l d r q s (Wl.KL bs) k os k 0
      rw [hLO] at hlh ⊢
      have pV2 := pV
      rw [hLO] at pV2
      clear pV
      have HV : Hid (∀ j, j < (Wl.UL n l d r q s (Wl.KL bs) k os k 0).length → ∃ i : Nat, el (Wl.UL n l d r q s (Wl.KL bs) k os k 0) j = i ∧ i < k ∧ el (Wl.OL n l d r q s (Wl.KL bs) k os k 0) j = el os i) := fun j hj => Wl.ul_at hj
      have HH : Hid (∀ i, i < k → Wl.hasK (Wl.UL n l d r q s (Wl.KL bs) k os k 0) (i : Int) (Wl.UL n l d r q s (Wl.KL bs) k os k 0).length = !Bo.eb bs i) := fun i hi => by rw [hUL]; exact Wl.has_up bs k i hi
      clear hUL
      generalize Wl.UL n l d r q s (Wl.KL bs) k os k 0 = U at pU hLU hlh pV2 HV HH ⊢
      generalize hOO : Wl.OL n l d r q s (Wl.KL bs) k os k 0 = O at pV2 hlh HV RS ⊢
      obtain ⟨lw, hlw⟩ : ∃ x, Wl.lo O = x := ⟨_, rfl⟩
      obtain ⟨hw, hhw⟩ : ∃ x, Wl.hi O = x := ⟨_, rfl⟩
      rw [hlw, hhw] at hlh RS ⊢
      clear hlw hhw hOO hLO
      generalize hLU2 : U.length = LU at pU hLU hlh pV2 HV HH ⊢
      clear hq
      have cRG0 := RG.cell 0 rfl
      have cRG1 := RG.cell 1 rfl
      have cRG2 := RG.cell 2 rfl
      have cRG3 := RG.cell 3 rfl
      have cRG4 := RG.cell 4 rfl
      have cRG5 := RG.cell 5 rfl
      have cRG6 := RG.cell 6 rfl
      have cRG7 := RG.cell 7 rfl
      have cRG8 := RG.cell 8 rfl
      have lRG := RG.lt (by simp)
      have cRS0 := RS.cell 0 rfl
      have cRS1 := RS.cell 1 rfl
      have lRS := RS.lt (by simp)
      skip
      go_wp2_with fail
      clear cRG0 cRG1 cRG2 cRG3 cRG4 cRG5 cRG6 cRG7 cRG8 lRG cRS0 cRS1 lRS
      go_loopw [14] (fun i wr => ∃ j : Nat, j ≤ k ∧ i = .int .i64 (j : Int) ∧ Hid (Below x24.heap.size x24 wr)) (fun i _ => k - (intOf i).toNat)
      case atStart => exact ⟨0, Nat.zero_le _, rfl, Below.refl _ _⟩
      case round =>
        obtain ⟨j, hj, rfl, HB⟩ := hrel
        by_cases hlt : j < k
        · have hi : (j : Int) < k := by omega
          have c6 := (RG.below HB.out).cell 6 rfl
          have c7 := (RG.below HB.out).cell 7 rfl
          have hcK := (pK.later HB.out pK.2.2.1).2.2.2.1 j hlt
          have hcL := (pL.later HB.out pL.2.2.1).2.2.2.1 j hlt
          have hcA := (pA.later HB.out pA.2.2.1).2.2.2.1 j hlt
          have hcO := (pO.later HB.out pO.2.2.1).2.2.2.1 j hlt
          rw [Nat.zero_add] at hcK hcL hcA hcO
          have rU : Hid (Ls.Row wr wr.heap.size (some ⟨gU, 0, none⟩) LU U) := (pU.later HB.out pU.2.2.1).row
          have hh := HH.out j hlt
          rw [Wl.kl_el] at hcK
          generalize el os j = y at hcA hcO
          cases hb : Bo.eb bs j with
          | true =>
            rw [hb] at hcK hcL hh
            have hcK2 : wr.cell? ⟨gK, j, none⟩ = some (.int .i64 2) := hcK
            clear hcK
            have HK : Hid (Wl.hasK U (j : Int) LU = false) := hh
            clear hh
            go_wp2_with fail
            go_quiet (first | (go_at_call 33; refine Calls.quiet_of_same (has_true rU.out (by omega) HK.out)))
            go_wp2
            go_roundw
            case rel => exact ⟨j + 1, by omega, by go_num, below_drewN HB.out _⟩
            case measure => simp [intOf]; omega
          | false =>
            rw [hb] at hcK hcL hh
            have hcK2 : wr.cell? ⟨gK, j, none⟩ = some (.int .i64 0) := hcK
            clear hcK
            have HK : Hid (Wl.hasK U (j : Int) LU = true) := hh
            clear hh
            go_wp2_with fail
            go_quiet (first | (go_at_call 33; refine Calls.quiet_of_same (has_false rU.out (by omega) HK.out)))
            go_wp2
            go_roundw
            case rel => exact ⟨j + 1, by omega, by go_num, below_drewN HB.out _⟩
            case measure => simp [intOf]; omega
        · have hi : ¬ (j : Int) < k := by omega
          go_wp2_with fail
          go_loopw [15] (fun i wq => ∃ j : Nat, j ≤ LU ∧ i = .int .i64 (j : Int) ∧ Hid (Below x24.heap.size x24 wq)) (fun i _ => LU - (intOf i).toNat)
          case atStart => exact ⟨0, Nat.zero_le _, rfl, HB⟩
          case round =>
            obtain ⟨j2, hj2, rfl, HB2⟩ := hrel
            by_cases hlt2 : j2 < LU
            · have hi2 : (j2 : Int) < LU := by omega
              obtain ⟨i, e1, e2, e3⟩ := HV.out j2 hlt2
              have hq2 := hlh j2 hlt2
              rw [e3] at hq2
              have hcV := (pV2.later HB2.out pV2.2.2.1).2.2.2.1 j2 hlt2
              have hcU := (pU.later HB2.out pU.2.2.1).2.2.2.1 j2 hlt2
              have hcO := (pO.later HB2.out pO.2.2.1).2.2.2.1 i e2
              rw [Nat.zero_add] at hcV hcU hcO
              rw [e3] at hcV
              rw [e1] at hcU
              clear e1 e3
              generalize el os i = y at hcV hcO hq2
              have s0 := (RS.below HB2.out).cell 0 rfl
              have s1 := (RS.below HB2.out).cell 1 rfl
              have hi3 : (i : Int) < k := by omega
              have t1 : decide (y < lw) = false := by simp; omega
              have t2 : decide (hw < y) = false := by simp; omega
              clear hq2
              go_wp2_with fail
              go_quiet (fail)
              go_wp2
              go_roundw
              case rel => exact ⟨j2 + 1, by omega, by go_num, below_drewN HB2.out _⟩
              case measure => simp [intOf]; omega
            · have hi2 : ¬ (j2 : Int) < LU := by omega
              go_wp2
              go_ret
              exact ⟨rfl, BB.trans (HB2.out.mono BB.size)⟩

/-! The row. -/
set_option maxRecDepth 100000 in
theorem lifted (os : Os) (started : os.Started) (H : Type) (enc : TypeId × Value → H) :
    ReturnsInHanded {} Try.checked os 5 .any (Rows.fnNewWorldSpec.pre6 enc Try.prog Try.f5 Rows.fnNewWorldRow.domain false) (Rows.fnNewWorldSpec.post enc Try.prog Try.f5 false true false false) := by
  refine returnsInHanded_of_change (C := Try.checked) own started (by kernel_rfl) Try.func5
    (ChangeSpec.witness6 (enc := enc) (C := Try.checked) false ⟨#[], #[.slice none 0 0], []⟩ 8 (by kernel_rfl) (by kernel_rfl) (by kernel_rfl) (by kernel_rfl)) ?_
  intro W base args ds gs before hval0 hW hcnd _
  have hval : ∀ (j : Nat) t v, Try.f5.params[j]? = some t → args[j]? = some v → Value.okWide Try.prog W .any base t v := hval0
  have hW' := hW
  obtain ⟨p, q, hA0, hV, rfl, hfz, hnd⟩ := hW
  have hA : DataW.TrodAll enc Try.prog W 0 (fun _ => true) true Try.f5.params.toList args.toList ds p := hA0
  rw [Try.params5] at hA hval
  obtain ⟨v0, vs0, d0, ds0, p0, q0, hargs, rfl, rfl, h0, r0⟩ := trodAll_cons hA
  obtain ⟨rfl, rfl, rfl⟩ := trodAll_nil r0
  obtain rfl : args = #[v0] := by cases args; simp_all
  obtain ⟨rfl, rfl⟩ := trodVars_none hV
  obtain ⟨a0, len0, cap0, rfl⟩ := okWide_slice Try.underlying22 (hval 0 22 v0 rfl rfl)
  have k0 := h0
  have lt0 : ∀ x ∈ p0, x.block < W.heap.size := by obtain ⟨m, hm⟩ := k0; exact DataW.trod_lt m _ _ _ hm
  obtain ⟨z0, w0⟩ : ∃ zs, IsRow .u8 W a0 len0 cap0 zs := by
    obtain ⟨fuel, hf⟩ := h0
    rcases open_ints Try.underlying22 Try.underlying5 (by kernel_rfl) hf with ⟨hcs, _⟩ | ⟨x, l, c, zs, hcs, _, hl, hm, hz, _, hcell, hwz⟩
    · simp [Value.cells] at hcs
      obtain ⟨rfl, rfl, rfl⟩ := hcs
      exact ⟨[], .inl ⟨rfl, rfl, rfl, rfl⟩⟩
    · simp [Value.cells] at hcs
      obtain ⟨rfl, rfl, rfl⟩ := hcs
      exact ⟨zs, .inr ⟨_, rfl, hl, hm, by simpa using hz, hcell, hwz⟩⟩
  clear hA0 hval0
  refine (walk a0 len0 cap0 z0 W w0).mono fun e W' ⟨he, bel⟩ => ?_
  subst he
  exact ⟨_, rfl, _, _, _, [], _, [], hW', trodAll_mk1 (shut_bool Try.underlying4 _), (trodAll_cons_mk (Below.trod laidOut (by kernel_rfl) (of_decide_eq_true (by kernel_rfl)) k0 bel lt0) trodAll_mk0), rfl, bel.frame _, fun h => by cases h⟩

theorem over : Rows.fnNewWorldRow.holds Try.pinned (OpenSpec.ofChange Rows.fnNewWorldSpec) :=
  OpenClaim.holds_of_wide 5 Try.f5 rfl rfl rfl rfl rfl rfl rfl ⟨rfl, rfl, rfl, rfl, rfl⟩ rfl rfl rfl rfl rfl (by kernel_rfl) Try.func5 (by kernel_rfl)
    (of_decide_eq_true (by kernel_rfl)) (by unfold Func.isWrapper; first | (rw [if_pos (by decide +kernel)]; kernel_rfl) | (rw [if_neg (by decide +kernel)]; exact ⟨rfl, rfl⟩))
    (fun os started H enc _ => lifted os started H enc)

end Go.Proofs.Ytloicicgcdfgnaa.fnNewWorld

namespace Go.Proofs.Ytloicicgcdfgnaa
/-- The given statement. -/
theorem fnNewWorld_holds : Rows.FnNewWorldSaid := fnNewWorld.over
#print axioms fnNewWorld_holds
end Go.Proofs.Ytloicicgcdfgnaa
