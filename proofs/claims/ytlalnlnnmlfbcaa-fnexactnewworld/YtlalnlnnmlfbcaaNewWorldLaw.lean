/-
  FnExactNewWorld: for every config, list of offs and list of liars handed in, impl.NewWorld answers as spec.NewWorld, into its own memory, behind another call too, and leaves its arguments as they were; the call returns true, and nothing that was there ahead of it is written.
-/
import Derived.Test.YtlalnlnnmlfbcaaRows
import Derived.WalkKit
import Derived.ProofKit
import Derived.OpenShut
import Derived.ChangeOld
import Derived.Below
import Derived.Lib.SmallJoins
import Derived.Test.YtlalnlnnmlfbcaaOpW
import Derived.Test.YtlalnlnnmlfbcaaNewS
import Derived.Test.YtlalnlnnmlfbcaaZero
import Derived.Test.YtlalnlnnmlfbcaaPut
namespace Go.Proofs.Ytlalnlnnmlfbcaa.fnExactNewWorld
open Go.ChangeShapes Go.WideShapes Go.ChangeAt Go.RowKit Go.Joins
set_option linter.unusedVariables false
set_option linter.unusedSimpArgs false

theorem own : ownKnob Try.prog.godebug = none := by kernel_rfl
theorem laidOut : laidOutB Try.prog = true := by kernel_rfl


/-! The walk. -/
set_option maxHeartbeats 20000000 in
set_option maxRecDepth 100000 in
theorem walk (n l d r p s : Int) (b : Option Addr) (m mb : Nat) (os : List Int) (a : Option Addr) (k ka : Nat) (bs : List Bool) (w : World) (hs : Ls.Row w w.heap.size b m os) (lm : m ≤ maxLen) (hr : Rd.Flags w w.heap.size a k bs) (lk : k ≤ maxLen) :
    Calls Try.prog 5 #[.agg #[.int .i64 n, .int .i64 l, .int .i64 d, .int .i64 r, .int .i64 p, .int .i64 s], .slice b m mb, .slice a k ka] w fun e w' => e = .returned (.bool true) ∧ Below w.heap.size w w' := by
  by_cases hm : m ≤ 1048576
  case neg =>
    have hm2 : decide ((1048576 : Int) < (m : Int)) = true := by simp; omega
    go_enter Try.func5, Try.ntmps5
    go_wp2
    go_ret
    exact ⟨rfl, (Below.refl _ _).alloc (Nat.le_refl _) _⟩
  case pos =>
    have hm2 : decide ((1048576 : Int) < (m : Int)) = false := by simp; omega
    by_cases hk : k ≤ 1048576
    case neg =>
      have hk2 : decide ((1048576 : Int) < (k : Int)) = true := by simp; omega
      go_enter Try.func5, Try.ntmps5
      go_wp2
      go_ret
      exact ⟨rfl, (Below.refl _ _).alloc (Nat.le_refl _) _⟩
    case pos =>
      have hk2 : decide ((1048576 : Int) < (k : Int)) = false := by simp; omega
      cases hq : Wl.WO n l d r p s (Wl.KL bs) k os m 0 with
      | false =>
        have R0 := Rm.Room.new w [.int .i64 n, .int .i64 l, .int .i64 d, .int .i64 r, .int .i64 p, .int .i64 s] 41
        have BB := (Below.refl w.heap.size w).alloc (Nat.le_refl _) (.cells #[.int .i64 n, .int .i64 l, .int .i64 d, .int .i64 r, .int .i64 p, .int .i64 s] 41)
        have hzm : os.length = m := hs.1
        have hk4 : decide ((1 : Int) + (m : Int) + (k : Int) < 0) = false := by simp; omega
        go_enter Try.func5, Try.ntmps5
        have cR00 := R0.cell 0 rfl
        have cR01 := R0.cell 1 rfl
        have cR02 := R0.cell 2 rfl
        have cR03 := R0.cell 3 rfl
        have cR04 := R0.cell 4 rfl
        have cR05 := R0.cell 5 rfl
        have lR0 := R0.lt (by simp)
        go_wp2_with fail
        refine (Cf.toConfig _ _ _ _ _ _ _).mono ?_
        rintro e x1 ⟨rfl, b1⟩
        clear cR00 cR01 cR02 cR03 cR04 cR05 lR0
        have z_b1 := b1.size
        (try simp at z_b1)
        replace R0 := R0.below b1
        replace BB := BB.trans (b1.mono BB.size)
        go_wp2_with fail
        refine (Ow.copied b m mb os _ ((hs.later BB (Nat.le_refl _)).more BB.size) hm).mono ?_
        rintro e x2 ⟨⟨go1, rfl, o1⟩, b2⟩
        have z_b2 := b2.size
        (try simp at z_b2)
        replace R0 := R0.below b2
        replace BB := BB.trans (b2.mono BB.size)
        have lo_o1 := o1.2.1
        have hi_o1 := o1.2.2.1
        (try simp at lo_o1)
        go_wp2_with fail
        refine (Bo.copied a k ka bs _ ((hr.later BB (Nat.le_refl _)).more BB.size) hk).mono ?_
        rintro e x3 ⟨⟨gf1, rfl, f1⟩, b3⟩
        have z_b3 := b3.size
        (try simp at z_b3)
        replace R0 := R0.below b3
        replace o1 := o1.later b3 o1.2.2.1
        replace BB := BB.trans (b3.mono BB.size)
        have lo_f1 := f1.2.1
        have hi_f1 := f1.2.2.1
        (try simp at lo_f1)
        go_wp2_with fail
        refine (Wl.s_NewWorld n l d r p s _ 0 m m _ k k bs os _ hzm o1.2.2.2.1 o1.2.2.1 f1.row hk hm).mono ?_
        rintro e x4 ⟨⟨hFA, hTA⟩, b4⟩
        have z_b4 := b4.size
        (try simp at z_b4)
        replace R0 := R0.below b4
        replace o1 := o1.later b4 o1.2.2.1
        replace f1 := f1.later b4 f1.2.2.1
        replace BB := BB.trans (b4.mono BB.size)
        obtain rfl := hFA hq
        clear hFA hTA
        clear o1 f1
        go_wp2_with fail
        have bn1 := (Below.refl x4.heap.size x4).alloc (Nat.le_refl _) (.cells #[.int .i64 0, .int .i64 0, .int .i64 0, .int .i64 0, .int .i64 0, .int .i64 0, .slice none 0 0, .slice none 0 0, .int .i64 0] 31)
        have z_bn1 := bn1.size
        have RS := Rm.Room.new x4 [.int .i64 0, .int .i64 0, .int .i64 0, .int .i64 0, .int .i64 0, .int .i64 0, .slice none 0 0, .slice none 0 0, .int .i64 0] 31
        replace R0 := R0.below bn1
        replace BB := BB.trans (bn1.mono BB.size)
        refine (Ow.copied b m mb os _ ((hs.later BB (Nat.le_refl _)).more BB.size) hm).mono ?_
        rintro e x5 ⟨⟨go2, rfl, o2⟩, b5⟩
        have z_b5 := b5.size
        (try simp at z_b5)
        replace R0 := R0.below b5
        replace RS := RS.below b5
        replace BB := BB.trans (b5.mono BB.size)
        have lo_o2 := o2.2.1
        have hi_o2 := o2.2.2.1
        (try simp at lo_o2)
        go_wp2_with fail
        refine (Bo.copied a k ka bs _ ((hr.later BB (Nat.le_refl _)).more BB.size) hk).mono ?_
        rintro e x6 ⟨⟨gf2, rfl, f2⟩, b6⟩
        have z_b6 := b6.size
        (try simp at z_b6)
        replace R0 := R0.below b6
        replace RS := RS.below b6
        replace o2 := o2.later b6 o2.2.2.1
        replace BB := BB.trans (b6.mono BB.size)
        have lo_f2 := f2.2.1
        have hi_f2 := f2.2.2.1
        (try simp at lo_f2)
        have cR00 := R0.cell 0 rfl
        have cR01 := R0.cell 1 rfl
        have cR02 := R0.cell 2 rfl
        have cR03 := R0.cell 3 rfl
        have cR04 := R0.cell 4 rfl
        have cR05 := R0.cell 5 rfl
        have lR0 := R0.lt (by simp)
        go_wp2_with fail
        refine (Cf.toConfig _ _ _ _ _ _ _).mono ?_
        rintro e x7 ⟨rfl, b7⟩
        clear cR00 cR01 cR02 cR03 cR04 cR05 lR0
        have z_b7 := b7.size
        (try simp at z_b7)
        replace R0 := R0.below b7
        replace RS := RS.below b7
        replace o2 := o2.later b7 o2.2.2.1
        replace f2 := f2.later b7 f2.2.2.1
        replace BB := BB.trans (b7.mono BB.size)
        go_wp2_with fail
        refine (Wl.i_NewWorld n l d r p s _ 0 m m _ k k bs os _ hzm o2.2.2.2.1 o2.2.2.1 f2.row hk hm).mono ?_
        rintro e x8 ⟨⟨hFG, hTG⟩, b8⟩
        have z_b8 := b8.size
        (try simp at z_b8)
        replace R0 := R0.below b8
        replace RS := RS.below b8
        replace o2 := o2.later b8 o2.2.2.1
        replace f2 := f2.later b8 f2.2.2.1
        replace BB := BB.trans (b8.mono BB.size)
        obtain rfl := hFG hq
        clear hFG hTG
        have cRS0 := RS.cell 0 rfl
        have cRS1 := RS.cell 1 rfl
        have cRS2 := RS.cell 2 rfl
        have cRS3 := RS.cell 3 rfl
        have cRS4 := RS.cell 4 rfl
        have cRS5 := RS.cell 5 rfl
        have cRS6 := RS.cell 6 rfl
        have cRS7 := RS.cell 7 rfl
        have cRS8 := RS.cell 8 rfl
        have lRS := RS.lt (by simp)
        go_wp2_with fail
        clear cRS0 cRS1 cRS2 cRS3 cRS4 cRS5 cRS6 cRS7 cRS8 lRS
        have bn2 := (Below.refl x8.heap.size x8).alloc (Nat.le_refl _) (.cells #[.int .i64 0, .int .i64 0, .int .i64 0, .int .i64 0, .int .i64 0, .int .i64 0, .slice none 0 0, .slice none 0 0, .int .i64 0] 31)
        have z_bn2 := bn2.size
        have RG := Rm.Room.new x8 [.int .i64 0, .int .i64 0, .int .i64 0, .int .i64 0, .int .i64 0, .int .i64 0, .slice none 0 0, .slice none 0 0, .int .i64 0] 31
        replace R0 := R0.below bn2
        replace RS := RS.below bn2
        replace o2 := o2.later bn2 o2.2.2.1
        replace f2 := f2.later bn2 f2.2.2.1
        replace BB := BB.trans (bn2.mono BB.size)
        refine (Wl.eqWorld 0 0 0 0 0 0 0 none none none none 0 0 0 0 0 0 [] [] _ ⟨rfl, .inl rfl⟩ ⟨rfl, .inl rfl⟩ ⟨rfl, .inl rfl⟩ ⟨rfl, .inl rfl⟩ (by omega) (by omega)).mono ?_
        rintro e x9 ⟨rfl, b9⟩
        have z_b9 := b9.size
        (try simp at z_b9)
        replace R0 := R0.below b9
        replace RS := RS.below b9
        replace RG := RG.below b9
        replace o2 := o2.later b9 o2.2.2.1
        replace f2 := f2.later b9 f2.2.2.1
        replace BB := BB.trans (b9.mono BB.size)
        go_wp2_with fail
        refine (Ow.copied b m mb os _ ((hs.later BB (Nat.le_refl _)).more BB.size) hm).mono ?_
        rintro e x10 ⟨⟨go3, rfl, o3⟩, b10⟩
        have z_b10 := b10.size
        (try simp at z_b10)
        replace R0 := R0.below b10
        replace RS := RS.below b10
        replace RG := RG.below b10
        replace o2 := o2.later b10 o2.2.2.1
        replace f2 := f2.later b10 f2.2.2.1
        replace BB := BB.trans (b10.mono BB.size)
        have lo_o3 := o3.2.1
        have hi_o3 := o3.2.2.1
        (try simp at lo_o3)
        go_wp2_with fail
        refine (Ls.eqInt64S _ _ m _ _ os _ o2.row o3.row hm).mono ?_
        rintro e x11 ⟨rfl, b11⟩
        have z_b11 := b11.size
        (try simp at z_b11)
        replace R0 := R0.below b11
        replace RS := RS.below b11
        replace RG := RG.below b11
        replace o2 := o2.later b11 o2.2.2.1
        replace f2 := f2.later b11 f2.2.2.1
        replace o3 := o3.later b11 o3.2.2.1
        replace BB := BB.trans (b11.mono BB.size)
        clear o3
        go_wp2_with fail
        refine (Bo.copied a k ka bs _ ((hr.later BB (Nat.le_refl _)).more BB.size) hk).mono ?_
        rintro e x12 ⟨⟨gf3, rfl, f3⟩, b12⟩
        have z_b12 := b12.size
        (try simp at z_b12)
        replace R0 := R0.below b12
        replace RS := RS.below b12
        replace RG := RG.below b12
        replace o2 := o2.later b12 o2.2.2.1
        replace f2 := f2.later b12 f2.2.2.1
        replace BB := BB.trans (b12.mono BB.size)
        have lo_f3 := f3.2.1
        have hi_f3 := f3.2.2.1
        (try simp at lo_f3)
        go_wp2_with fail
        refine (Bo.eqBoolS _ _ k _ _ bs _ f2.row f3.row hk).mono ?_
        rintro e x13 ⟨rfl, b13⟩
        have z_b13 := b13.size
        (try simp at z_b13)
        replace R0 := R0.below b13
        replace RS := RS.below b13
        replace RG := RG.below b13
        replace o2 := o2.later b13 o2.2.2.1
        replace f2 := f2.later b13 f2.2.2.1
        replace f3 := f3.later b13 f3.2.2.1
        replace BB := BB.trans (b13.mono BB.size)
        clear f3
        go_wp2_with fail
        refine (Ow.mark 1 _ go2 0 m m os _ o2 hm (by omega) (by omega)).mono ?_
        rintro e x14 ⟨rfl, mo2, e1⟩
        have z_e1 := e1.size
        clear o2
        replace R0 := R0.other e1 (by omega)
        replace RS := RS.other e1 (by omega)
        replace RG := RG.other e1 (by omega)
        replace f2 := f2.kept e1 (by omega)
        replace BB := BB.grown e1 BB.size (by intro j hj; cases hj; omega)
        clear mo2
        go_wp2_with fail
        refine (Bo.mark (1 + m) _ gf2 0 k k bs _ f2 hk (by omega) (by omega)).mono ?_
        rintro e x15 ⟨rfl, e2⟩
        have z_e2 := e2.size
        clear f2
        replace R0 := R0.other e2 (by omega)
        replace RS := RS.other e2 (by omega)
        replace RG := RG.other e2 (by omega)
        replace BB := BB.grown e2 BB.size (by intro j hj; cases hj; omega)
        have cR00 := R0.cell 0 rfl
        have cR01 := R0.cell 1 rfl
        have cR02 := R0.cell 2 rfl
        have cR03 := R0.cell 3 rfl
        have cR04 := R0.cell 4 rfl
        have cR05 := R0.cell 5 rfl
        have lR0 := R0.lt (by simp)
        have cRS0 := RS.cell 0 rfl
        have cRS1 := RS.cell 1 rfl
        have cRS2 := RS.cell 2 rfl
        have cRS3 := RS.cell 3 rfl
        have cRS4 := RS.cell 4 rfl
        have cRS5 := RS.cell 5 rfl
        have cRS6 := RS.cell 6 rfl
        have cRS7 := RS.cell 7 rfl
        have cRS8 := RS.cell 8 rfl
        have lRS := RS.lt (by simp)
        have cRG0 := RG.cell 0 rfl
        have cRG1 := RG.cell 1 rfl
        have cRG2 := RG.cell 2 rfl
        have cRG3 := RG.cell 3 rfl
        have cRG4 := RG.cell 4 rfl
        have cRG5 := RG.cell 5 rfl
        have cRG6 := RG.cell 6 rfl
        have cRG7 := RG.cell 7 rfl
        have cRG8 := RG.cell 8 rfl
        have lRG := RG.lt (by simp)
        go_wp2_with fail
        refine (Wl.eqWorld 0 0 0 0 0 0 0 none none none none 0 0 0 0 0 0 [] [] _ ⟨rfl, .inl rfl⟩ ⟨rfl, .inl rfl⟩ ⟨rfl, .inl rfl⟩ ⟨rfl, .inl rfl⟩ (by omega) (by omega)).mono ?_
        rintro e x16 ⟨rfl, b16⟩
        clear cR00 cR01 cR02 cR03 cR04 cR05 lR0 cRS0 cRS1 cRS2 cRS3 cRS4 cRS5 cRS6 cRS7 cRS8 lRS cRG0 cRG1 cRG2 cRG3 cRG4 cRG5 cRG6 cRG7 cRG8 lRG
        have z_b16 := b16.size
        (try simp at z_b16)
        replace R0 := R0.below b16
        replace RS := RS.below b16
        replace RG := RG.below b16
        replace BB := BB.trans (b16.mono BB.size)
        have cRG0 := RG.cell 0 rfl
        have cRG1 := RG.cell 1 rfl
        have cRG2 := RG.cell 2 rfl
        have cRG3 := RG.cell 3 rfl
        have cRG4 := RG.cell 4 rfl
        have cRG5 := RG.cell 5 rfl
        have cRG6 := RG.cell 6 rfl
        have cRG7 := RG.cell 7 rfl
        have cRG8 := RG.cell 8 rfl
        have lRG := RG.lt (by simp)
        go_wp2_with fail
        refine (Wl.markWorld0 0 0 0 0 0 0 0 _).mono ?_
        rintro e x17 ⟨rfl, b17⟩
        clear cRG0 cRG1 cRG2 cRG3 cRG4 cRG5 cRG6 cRG7 cRG8 lRG
        have z_b17 := b17.size
        (try simp at z_b17)
        replace R0 := R0.below b17
        replace RS := RS.below b17
        replace RG := RG.below b17
        replace BB := BB.trans (b17.mono BB.size)
        have cRG0 := RG.cell 0 rfl
        have cRG1 := RG.cell 1 rfl
        have cRG2 := RG.cell 2 rfl
        have cRG3 := RG.cell 3 rfl
        have cRG4 := RG.cell 4 rfl
        have cRG5 := RG.cell 5 rfl
        have cRG6 := RG.cell 6 rfl
        have cRG7 := RG.cell 7 rfl
        have cRG8 := RG.cell 8 rfl
        have lRG := RG.lt (by simp)
        go_wp2_with fail
        refine (Wl.heldWorld0 0 0 0 0 0 0 0 _).mono ?_
        rintro e x18 ⟨rfl, b18⟩
        clear cRG0 cRG1 cRG2 cRG3 cRG4 cRG5 cRG6 cRG7 cRG8 lRG
        have z_b18 := b18.size
        (try simp at z_b18)
        replace R0 := R0.below b18
        replace RS := RS.below b18
        replace RG := RG.below b18
        replace BB := BB.trans (b18.mono BB.size)
        have cR00 := R0.cell 0 rfl
        have cR01 := R0.cell 1 rfl
        have cR02 := R0.cell 2 rfl
        have cR03 := R0.cell 3 rfl
        have cR04 := R0.cell 4 rfl
        have cR05 := R0.cell 5 rfl
        have lR0 := R0.lt (by simp)
        go_wp2_with fail
        refine (Cf.toConfig _ _ _ _ _ _ _).mono ?_
        rintro e x19 ⟨rfl, b19⟩
        clear cR00 cR01 cR02 cR03 cR04 cR05 lR0
        have z_b19 := b19.size
        (try simp at z_b19)
        replace R0 := R0.below b19
        replace RS := RS.below b19
        replace RG := RG.below b19
        replace BB := BB.trans (b19.mono BB.size)
        go_wp2_with fail
        refine (Ow.copied b m mb os _ ((hs.later BB (Nat.le_refl _)).more BB.size) hm).mono ?_
        rintro e x20 ⟨⟨go4, rfl, o4⟩, b20⟩
        have z_b20 := b20.size
        (try simp at z_b20)
        replace R0 := R0.below b20
        replace RS := RS.below b20
        replace RG := RG.below b20
        replace BB := BB.trans (b20.mono BB.size)
        have lo_o4 := o4.2.1
        have hi_o4 := o4.2.2.1
        (try simp at lo_o4)
        go_wp2_with fail
        refine (Bo.copied a k ka bs _ ((hr.later BB (Nat.le_refl _)).more BB.size) hk).mono ?_
        rintro e x21 ⟨⟨gf4, rfl, f4⟩, b21⟩
        have z_b21 := b21.size
        (try simp at z_b21)
        replace R0 := R0.below b21
        replace RS := RS.below b21
        replace RG := RG.below b21
        replace o4 := o4.later b21 o4.2.2.1
        replace BB := BB.trans (b21.mono BB.size)
        have lo_f4 := f4.2.1
        have hi_f4 := f4.2.2.1
        (try simp at lo_f4)
        go_wp2_with fail
        refine (Wl.i_NewWorld n l d r p s _ 0 m m _ k k bs os _ hzm o4.2.2.2.1 o4.2.2.1 f4.row hk hm).mono ?_
        rintro e x22 ⟨⟨hFH, hTH⟩, b22⟩
        have z_b22 := b22.size
        (try simp at z_b22)
        replace R0 := R0.below b22
        replace RS := RS.below b22
        replace RG := RG.below b22
        replace o4 := o4.later b22 o4.2.2.1
        replace f4 := f4.later b22 f4.2.2.1
        replace BB := BB.trans (b22.mono BB.size)
        obtain rfl := hFH hq
        clear hFH hTH
        clear o4 f4
        have cRS0 := RS.cell 0 rfl
        have cRS1 := RS.cell 1 rfl
        have cRS2 := RS.cell 2 rfl
        have cRS3 := RS.cell 3 rfl
        have cRS4 := RS.cell 4 rfl
        have cRS5 := RS.cell 5 rfl
        have cRS6 := RS.cell 6 rfl
        have cRS7 := RS.cell 7 rfl
        have cRS8 := RS.cell 8 rfl
        have lRS := RS.lt (by simp)
        go_wp2_with fail
        clear cRS0 cRS1 cRS2 cRS3 cRS4 cRS5 cRS6 cRS7 cRS8 lRS
        have bn3 := (Below.refl x22.heap.size x22).alloc (Nat.le_refl _) (.cells #[.int .i64 0, .int .i64 0, .int .i64 0, .int .i64 0, .int .i64 0, .int .i64 0, .slice none 0 0, .slice none 0 0, .int .i64 0] 31)
        have z_bn3 := bn3.size
        have RH := Rm.Room.new x22 [.int .i64 0, .int .i64 0, .int .i64 0, .int .i64 0, .int .i64 0, .int .i64 0, .slice none 0 0, .slice none 0 0, .int .i64 0] 31
        replace R0 := R0.below bn3
        replace RS := RS.below bn3
        replace RG := RG.below bn3
        replace BB := BB.trans (bn3.mono BB.size)
        refine (Wl.eqWorld 0 0 0 0 0 0 0 none none none none 0 0 0 0 0 0 [] [] _ ⟨rfl, .inl rfl⟩ ⟨rfl, .inl rfl⟩ ⟨rfl, .inl rfl⟩ ⟨rfl, .inl rfl⟩ (by omega) (by omega)).mono ?_
        rintro e x23 ⟨rfl, b23⟩
        have z_b23 := b23.size
        (try simp at z_b23)
        replace R0 := R0.below b23
        replace RS := RS.below b23
        replace RG := RG.below b23
        replace RH := RH.below b23
        replace BB := BB.trans (b23.mono BB.size)
        have cRG0 := RG.cell 0 rfl
        have cRG1 := RG.cell 1 rfl
        have cRG2 := RG.cell 2 rfl
        have cRG3 := RG.cell 3 rfl
        have cRG4 := RG.cell 4 rfl
        have cRG5 := RG.cell 5 rfl
        have cRG6 := RG.cell 6 rfl
        have cRG7 := RG.cell 7 rfl
        have cRG8 := RG.cell 8 rfl
        have lRG := RG.lt (by simp)
        go_wp2_with fail
        refine (Wl.heldWorld0 0 0 0 0 0 0 0 _).mono ?_
        rintro e x24 ⟨rfl, b24⟩
        clear cRG0 cRG1 cRG2 cRG3 cRG4 cRG5 cRG6 cRG7 cRG8 lRG
        have z_b24 := b24.size
        (try simp at z_b24)
        replace R0 := R0.below b24
        replace RS := RS.below b24
        replace RG := RG.below b24
        replace RH := RH.below b24
        replace BB := BB.trans (b24.mono BB.size)
        go_wp2
        go_ret
        exact ⟨rfl, BB⟩
      | true =>
        have R0 := Rm.Room.new w [.int .i64 n, .int .i64 l, .int .i64 d, .int .i64 r, .int .i64 p, .int .i64 s] 41
        have BB := (Below.refl w.heap.size w).alloc (Nat.le_refl _) (.cells #[.int .i64 n, .int .i64 l, .int .i64 d, .int .i64 r, .int .i64 p, .int .i64 s] 41)
        have hzm : os.length = m := hs.1
        have hk3 : decide ((1 : Int) + (k : Int) + (m : Int) < 0) = false := by simp; omega
        have hk4 : decide ((1 : Int) + (m : Int) + (k : Int) < 0) = false := by simp; omega
        go_enter Try.func5, Try.ntmps5
        have cR00 := R0.cell 0 rfl
        have cR01 := R0.cell 1 rfl
        have cR02 := R0.cell 2 rfl
        have cR03 := R0.cell 3 rfl
        have cR04 := R0.cell 4 rfl
        have cR05 := R0.cell 5 rfl
        have lR0 := R0.lt (by simp)
        go_wp2_with fail
        refine (Cf.toConfig _ _ _ _ _ _ _).mono ?_
        rintro e x1 ⟨rfl, b1⟩
        clear cR00 cR01 cR02 cR03 cR04 cR05 lR0
        have z_b1 := b1.size
        (try simp at z_b1)
        replace R0 := R0.below b1
        replace BB := BB.trans (b1.mono BB.size)
        go_wp2_with fail
        refine (Ow.copied b m mb os _ ((hs.later BB (Nat.le_refl _)).more BB.size) hm).mono ?_
        rintro e x2 ⟨⟨go1, rfl, o1⟩, b2⟩
        have z_b2 := b2.size
        (try simp at z_b2)
        replace R0 := R0.below b2
        replace BB := BB.trans (b2.mono BB.size)
        have lo_o1 := o1.2.1
        have hi_o1 := o1.2.2.1
        (try simp at lo_o1)
        go_wp2_with fail
        refine (Bo.copied a k ka bs _ ((hr.later BB (Nat.le_refl _)).more BB.size) hk).mono ?_
        rintro e x3 ⟨⟨gf1, rfl, f1⟩, b3⟩
        have z_b3 := b3.size
        (try simp at z_b3)
        replace R0 := R0.below b3
        replace o1 := o1.later b3 o1.2.2.1
        replace BB := BB.trans (b3.mono BB.size)
        have lo_f1 := f1.2.1
        have hi_f1 := f1.2.2.1
        (try simp at lo_f1)
        go_wp2_with fail
        refine (Wl.s_NewWorld n l d r p s _ 0 m m _ k k bs os _ hzm o1.2.2.2.1 o1.2.2.1 f1.row hk hm).mono ?_
        rintro e x4 ⟨⟨hFA, hTA⟩, b4⟩
        have z_b4 := b4.size
        (try simp at z_b4)
        replace R0 := R0.below b4
        replace o1 := o1.later b4 o1.2.2.1
        replace f1 := f1.later b4 f1.2.2.1
        replace BB := BB.trans (b4.mono BB.size)
        obtain ⟨gKA, gOA, cKA, cOA, rfl, pKA, pOA, neA, leA, meA⟩ := hTA hq
        clear hFA hTA leA meA
        have lo_pKA := pKA.2.1
        have hi_pKA := pKA.2.2.1
        (try simp at lo_pKA)
        have lo_pOA := pOA.2.1
        have hi_pOA := pOA.2.2.1
        (try simp at lo_pOA)
        clear o1 f1
        go_wp2_with fail
        have bn1 := (Below.refl x4.heap.size x4).alloc (Nat.le_refl _) (.cells #[.int .i64 n, .int .i64 l, .int .i64 d, .int .i64 r, .int .i64 p, .int .i64 s, .slice (some ⟨gKA, 0, none⟩) k cKA, .slice (some ⟨gOA, 0, none⟩) m cOA, .int .i64 0] 31)
        have z_bn1 := bn1.size
        have RS := Rm.Room.new x4 [.int .i64 n, .int .i64 l, .int .i64 d, .int .i64 r, .int .i64 p, .int .i64 s, .slice (some ⟨gKA, 0, none⟩) k cKA, .slice (some ⟨gOA, 0, none⟩) m cOA, .int .i64 0] 31
        replace R0 := R0.below bn1
        replace pKA := pKA.later bn1 pKA.2.2.1
        replace pOA := pOA.later bn1 pOA.2.2.1
        replace BB := BB.trans (bn1.mono BB.size)
        refine (Ow.copied b m mb os _ ((hs.later BB (Nat.le_refl _)).more BB.size) hm).mono ?_
        rintro e x5 ⟨⟨go2, rfl, o2⟩, b5⟩
        have z_b5 := b5.size
        (try simp at z_b5)
        replace R0 := R0.below b5
        replace RS := RS.below b5
        replace pKA := pKA.later b5 pKA.2.2.1
        replace pOA := pOA.later b5 pOA.2.2.1
        replace BB := BB.trans (b5.mono BB.size)
        have lo_o2 := o2.2.1
        have hi_o2 := o2.2.2.1
        (try simp at lo_o2)
        go_wp2_with fail
        refine (Bo.copied a k ka bs _ ((hr.later BB (Nat.le_refl _)).more BB.size) hk).mono ?_
        rintro e x6 ⟨⟨gf2, rfl, f2⟩, b6⟩
        have z_b6 := b6.size
        (try simp at z_b6)
        replace R0 := R0.below b6
        replace RS := RS.below b6
        replace pKA := pKA.later b6 pKA.2.2.1
        replace pOA := pOA.later b6 pOA.2.2.1
        replace o2 := o2.later b6 o2.2.2.1
        replace BB := BB.trans (b6.mono BB.size)
        have lo_f2 := f2.2.1
        have hi_f2 := f2.2.2.1
        (try simp at lo_f2)
        have cR00 := R0.cell 0 rfl
        have cR01 := R0.cell 1 rfl
        have cR02 := R0.cell 2 rfl
        have cR03 := R0.cell 3 rfl
        have cR04 := R0.cell 4 rfl
        have cR05 := R0.cell 5 rfl
        have lR0 := R0.lt (by simp)
        go_wp2_with fail
        refine (Cf.toConfig _ _ _ _ _ _ _).mono ?_
        rintro e x7 ⟨rfl, b7⟩
        clear cR00 cR01 cR02 cR03 cR04 cR05 lR0
        have z_b7 := b7.size
        (try simp at z_b7)
        replace R0 := R0.below b7
        replace RS := RS.below b7
        replace pKA := pKA.later b7 pKA.2.2.1
        replace pOA := pOA.later b7 pOA.2.2.1
        replace o2 := o2.later b7 o2.2.2.1
        replace f2 := f2.later b7 f2.2.2.1
        replace BB := BB.trans (b7.mono BB.size)
        go_wp2_with fail
        refine (Wl.i_NewWorld n l d r p s _ 0 m m _ k k bs os _ hzm o2.2.2.2.1 o2.2.2.1 f2.row hk hm).mono ?_
        rintro e x8 ⟨⟨hFG, hTG⟩, b8⟩
        have z_b8 := b8.size
        (try simp at z_b8)
        replace R0 := R0.below b8
        replace RS := RS.below b8
        replace pKA := pKA.later b8 pKA.2.2.1
        replace pOA := pOA.later b8 pOA.2.2.1
        replace o2 := o2.later b8 o2.2.2.1
        replace f2 := f2.later b8 f2.2.2.1
        replace BB := BB.trans (b8.mono BB.size)
        obtain ⟨gKG, gOG, cKG, cOG, rfl, pKG, pOG, neG, leG, meG⟩ := hTG hq
        clear hFG hTG leG meG
        have lo_pKG := pKG.2.1
        have hi_pKG := pKG.2.2.1
        (try simp at lo_pKG)
        have lo_pOG := pOG.2.1
        have hi_pOG := pOG.2.2.1
        (try simp at lo_pOG)
        have cRS0 := RS.cell 0 rfl
        have cRS1 := RS.cell 1 rfl
        have cRS2 := RS.cell 2 rfl
        have cRS3 := RS.cell 3 rfl
        have cRS4 := RS.cell 4 rfl
        have cRS5 := RS.cell 5 rfl
        have cRS6 := RS.cell 6 rfl
        have cRS7 := RS.cell 7 rfl
        have cRS8 := RS.cell 8 rfl
        have lRS := RS.lt (by simp)
        go_wp2_with fail
        clear cRS0 cRS1 cRS2 cRS3 cRS4 cRS5 cRS6 cRS7 cRS8 lRS
        have bn2 := (Below.refl x8.heap.size x8).alloc (Nat.le_refl _) (.cells #[.int .i64 n, .int .i64 l, .int .i64 d, .int .i64 r, .int .i64 p, .int .i64 s, .slice (some ⟨gKG, 0, none⟩) k cKG, .slice (some ⟨gOG, 0, none⟩) m cOG, .int .i64 0] 31)
        have z_bn2 := bn2.size
        have RG := Rm.Room.new x8 [.int .i64 n, .int .i64 l, .int .i64 d, .int .i64 r, .int .i64 p, .int .i64 s, .slice (some ⟨gKG, 0, none⟩) k cKG, .slice (some ⟨gOG, 0, none⟩) m cOG, .int .i64 0] 31
        replace R0 := R0.below bn2
        replace RS := RS.below bn2
        replace pKA := pKA.later bn2 pKA.2.2.1
        replace pOA := pOA.later bn2 pOA.2.2.1
        replace o2 := o2.later bn2 o2.2.2.1
        replace f2 := f2.later bn2 f2.2.2.1
        replace pKG := pKG.later bn2 pKG.2.2.1
        replace pOG := pOG.later bn2 pOG.2.2.1
        replace BB := BB.trans (bn2.mono BB.size)
        refine (Wl.eqWorld n l d r p s 0 _ _ _ _ k _ _ m _ _ (Wl.KL bs) os _ pKG.row pKA.row pOG.row pOA.row hk hm).mono ?_
        rintro e x9 ⟨rfl, b9⟩
        have z_b9 := b9.size
        (try simp at z_b9)
        replace R0 := R0.below b9
        replace RS := RS.below b9
        replace RG := RG.below b9
        replace pKA := pKA.later b9 pKA.2.2.1
        replace pOA := pOA.later b9 pOA.2.2.1
        replace o2 := o2.later b9 o2.2.2.1
        replace f2 := f2.later b9 f2.2.2.1
        replace pKG := pKG.later b9 pKG.2.2.1
        replace pOG := pOG.later b9 pOG.2.2.1
        replace BB := BB.trans (b9.mono BB.size)
        go_wp2_with fail
        refine (Ow.copied b m mb os _ ((hs.later BB (Nat.le_refl _)).more BB.size) hm).mono ?_
        rintro e x10 ⟨⟨go3, rfl, o3⟩, b10⟩
        have z_b10 := b10.size
        (try simp at z_b10)
        replace R0 := R0.below b10
        replace RS := RS.below b10
        replace RG := RG.below b10
        replace pKA := pKA.later b10 pKA.2.2.1
        replace pOA := pOA.later b10 pOA.2.2.1
        replace o2 := o2.later b10 o2.2.2.1
        replace f2 := f2.later b10 f2.2.2.1
        replace pKG := pKG.later b10 pKG.2.2.1
        replace pOG := pOG.later b10 pOG.2.2.1
        replace BB := BB.trans (b10.mono BB.size)
        have lo_o3 := o3.2.1
        have hi_o3 := o3.2.2.1
        (try simp at lo_o3)
        go_wp2_with fail
        refine (Ls.eqInt64S _ _ m _ _ os _ o2.row o3.row hm).mono ?_
        rintro e x11 ⟨rfl, b11⟩
        have z_b11 := b11.size
        (try simp at z_b11)
        replace R0 := R0.below b11
        replace RS := RS.below b11
        replace RG := RG.below b11
        replace pKA := pKA.later b11 pKA.2.2.1
        replace pOA := pOA.later b11 pOA.2.2.1
        replace o2 := o2.later b11 o2.2.2.1
        replace f2 := f2.later b11 f2.2.2.1
        replace pKG := pKG.later b11 pKG.2.2.1
        replace pOG := pOG.later b11 pOG.2.2.1
        replace o3 := o3.later b11 o3.2.2.1
        replace BB := BB.trans (b11.mono BB.size)
        clear o3
        go_wp2_with fail
        refine (Bo.copied a k ka bs _ ((hr.later BB (Nat.le_refl _)).more BB.size) hk).mono ?_
        rintro e x12 ⟨⟨gf3, rfl, f3⟩, b12⟩
        have z_b12 := b12.size
        (try simp at z_b12)
        replace R0 := R0.below b12
        replace RS := RS.below b12
        replace RG := RG.below b12
        replace pKA := pKA.later b12 pKA.2.2.1
        replace pOA := pOA.later b12 pOA.2.2.1
        replace o2 := o2.later b12 o2.2.2.1
        replace f2 := f2.later b12 f2.2.2.1
        replace pKG := pKG.later b12 pKG.2.2.1
        replace pOG := pOG.later b12 pOG.2.2.1
        replace BB := BB.trans (b12.mono BB.size)
        have lo_f3 := f3.2.1
        have hi_f3 := f3.2.2.1
        (try simp at lo_f3)
        go_wp2_with fail
        refine (Bo.eqBoolS _ _ k _ _ bs _ f2.row f3.row hk).mono ?_
        rintro e x13 ⟨rfl, b13⟩
        have z_b13 := b13.size
        (try simp at z_b13)
        replace R0 := R0.below b13
        replace RS := RS.below b13
        replace RG := RG.below b13
        replace pKA := pKA.later b13 pKA.2.2.1
        replace pOA := pOA.later b13 pOA.2.2.1
        replace o2 := o2.later b13 o2.2.2.1
        replace f2 := f2.later b13 f2.2.2.1
        replace pKG := pKG.later b13 pKG.2.2.1
        replace pOG := pOG.later b13 pOG.2.2.1
        replace f3 := f3.later b13 f3.2.2.1
        replace BB := BB.trans (b13.mono BB.size)
        clear f3
        go_wp2_with fail
        refine (Ow.mark 1 _ go2 0 m m os _ o2 hm (by omega) (by omega)).mono ?_
        rintro e x14 ⟨rfl, mo2, e1⟩
        have z_e1 := e1.size
        clear o2
        replace R0 := R0.other e1 (by omega)
        replace RS := RS.other e1 (by omega)
        replace RG := RG.other e1 (by omega)
        replace pKA := pKA.kept e1 (by omega)
        replace pOA := pOA.kept e1 (by omega)
        replace f2 := f2.kept e1 (by omega)
        replace pKG := pKG.kept e1 (by omega)
        replace pOG := pOG.kept e1 (by omega)
        replace BB := BB.grown e1 BB.size (by intro j hj; cases hj; omega)
        clear mo2
        go_wp2_with fail
        refine (Bo.mark (1 + m) _ gf2 0 k k bs _ f2 hk (by omega) (by omega)).mono ?_
        rintro e x15 ⟨rfl, e2⟩
        have z_e2 := e2.size
        clear f2
        replace R0 := R0.other e2 (by omega)
        replace RS := RS.other e2 (by omega)
        replace RG := RG.other e2 (by omega)
        replace pKA := pKA.kept e2 (by omega)
        replace pOA := pOA.kept e2 (by omega)
        replace pKG := pKG.kept e2 (by omega)
        replace pOG := pOG.kept e2 (by omega)
        replace BB := BB.grown e2 BB.size (by intro j hj; cases hj; omega)
        have cR00 := R0.cell 0 rfl
        have cR01 := R0.cell 1 rfl
        have cR02 := R0.cell 2 rfl
        have cR03 := R0.cell 3 rfl
        have cR04 := R0.cell 4 rfl
        have cR05 := R0.cell 5 rfl
        have lR0 := R0.lt (by simp)
        have cRS0 := RS.cell 0 rfl
        have cRS1 := RS.cell 1 rfl
        have cRS2 := RS.cell 2 rfl
        have cRS3 := RS.cell 3 rfl
        have cRS4 := RS.cell 4 rfl
        have cRS5 := RS.cell 5 rfl
        have cRS6 := RS.cell 6 rfl
        have cRS7 := RS.cell 7 rfl
        have cRS8 := RS.cell 8 rfl
        have lRS := RS.lt (by simp)
        have cRG0 := RG.cell 0 rfl
        have cRG1 := RG.cell 1 rfl
        have cRG2 := RG.cell 2 rfl
        have cRG3 := RG.cell 3 rfl
        have cRG4 := RG.cell 4 rfl
        have cRG5 := RG.cell 5 rfl
        have cRG6 := RG.cell 6 rfl
        have cRG7 := RG.cell 7 rfl
        have cRG8 := RG.cell 8 rfl
        have lRG := RG.lt (by simp)
        go_wp2_with fail
        refine (Wl.eqWorld n l d r p s 0 _ _ _ _ k _ _ m _ _ (Wl.KL bs) os _ pKG.row pKA.row pOG.row pOA.row hk hm).mono ?_
        rintro e x16 ⟨rfl, b16⟩
        clear cR00 cR01 cR02 cR03 cR04 cR05 lR0 cRS0 cRS1 cRS2 cRS3 cRS4 cRS5 cRS6 cRS7 cRS8 lRS cRG0 cRG1 cRG2 cRG3 cRG4 cRG5 cRG6 cRG7 cRG8 lRG
        have z_b16 := b16.size
        (try simp at z_b16)
        replace R0 := R0.below b16
        replace RS := RS.below b16
        replace RG := RG.below b16
        replace pKA := pKA.later b16 pKA.2.2.1
        replace pOA := pOA.later b16 pOA.2.2.1
        replace pKG := pKG.later b16 pKG.2.2.1
        replace pOG := pOG.later b16 pOG.2.2.1
        replace BB := BB.trans (b16.mono BB.size)
        have cRG0 := RG.cell 0 rfl
        have cRG1 := RG.cell 1 rfl
        have cRG2 := RG.cell 2 rfl
        have cRG3 := RG.cell 3 rfl
        have cRG4 := RG.cell 4 rfl
        have cRG5 := RG.cell 5 rfl
        have cRG6 := RG.cell 6 rfl
        have cRG7 := RG.cell 7 rfl
        have cRG8 := RG.cell 8 rfl
        have lRG := RG.lt (by simp)
        go_wp2_with fail
        refine (Wl.markWorld n l d r p s 0 _ gKG 0 gOG 0 k _ m _ _ _ _ pKG pOG neG hk hm).mono ?_
        rintro e x17 ⟨rfl, mK, mO, y1, y2, bx17, e3, e4⟩
        clear cRG0 cRG1 cRG2 cRG3 cRG4 cRG5 cRG6 cRG7 cRG8 lRG
        clear pKG pOG
        have z_bx17 := bx17.size
        have z_e3 := e3.size
        have z_e4 := e4.size
        replace R0 := R0.below bx17
        replace RS := RS.below bx17
        replace RG := RG.below bx17
        replace pKA := pKA.later bx17 pKA.2.2.1
        replace pOA := pOA.later bx17 pOA.2.2.1
        replace BB := BB.trans (bx17.mono BB.size)
        replace R0 := R0.other e3 (by omega)
        replace RS := RS.other e3 (by omega)
        replace RG := RG.other e3 (by omega)
        replace pKA := pKA.kept e3 (by omega)
        replace pOA := pOA.kept e3 (by omega)
        replace BB := BB.grown e3 BB.size (by intro j hj; cases hj; omega)
        replace R0 := R0.other e4 (by omega)
        replace RS := RS.other e4 (by omega)
        replace RG := RG.other e4 (by omega)
        replace pKA := pKA.kept e4 (by omega)
        replace pOA := pOA.kept e4 (by omega)
        replace BB := BB.grown e4 BB.size (by intro j hj; cases hj; omega)
        have cRG0 := RG.cell 0 rfl
        have cRG1 := RG.cell 1 rfl
        have cRG2 := RG.cell 2 rfl
        have cRG3 := RG.cell 3 rfl
        have cRG4 := RG.cell 4 rfl
        have cRG5 := RG.cell 5 rfl
        have cRG6 := RG.cell 6 rfl
        have cRG7 := RG.cell 7 rfl
        have cRG8 := RG.cell 8 rfl
        have lRG := RG.lt (by simp)
        go_wp2_with fail
        refine (Wl.heldWorld n l d r p s 0 _ gKG 0 gOG 0 k _ m _ _ mK mO hk hm).mono ?_
        rintro e x18 ⟨rfl, b18⟩
        clear cRG0 cRG1 cRG2 cRG3 cRG4 cRG5 cRG6 cRG7 cRG8 lRG
        have z_b18 := b18.size
        (try simp at z_b18)
        replace R0 := R0.below b18
        replace RS := RS.below b18
        replace RG := RG.below b18
        replace pKA := pKA.later b18 pKA.2.2.1
        replace pOA := pOA.later b18 pOA.2.2.1
        replace mK := mK.later b18 mK.2.2.1
        replace mO := mO.later b18 mO.2.2.1
        replace BB := BB.trans (b18.mono BB.size)
        have cR00 := R0.cell 0 rfl
        have cR01 := R0.cell 1 rfl
        have cR02 := R0.cell 2 rfl
        have cR03 := R0.cell 3 rfl
        have cR04 := R0.cell 4 rfl
        have cR05 := R0.cell 5 rfl
        have lR0 := R0.lt (by simp)
        go_wp2_with fail
        refine (Cf.toConfig _ _ _ _ _ _ _).mono ?_
        rintro e x19 ⟨rfl, b19⟩
        clear cR00 cR01 cR02 cR03 cR04 cR05 lR0
        have z_b19 := b19.size
        (try simp at z_b19)
        replace R0 := R0.below b19
        replace RS := RS.below b19
        replace RG := RG.below b19
        replace pKA := pKA.later b19 pKA.2.2.1
        replace pOA := pOA.later b19 pOA.2.2.1
        replace mK := mK.later b19 mK.2.2.1
        replace mO := mO.later b19 mO.2.2.1
        replace BB := BB.trans (b19.mono BB.size)
        go_wp2_with fail
        refine (Ow.copied b m mb os _ ((hs.later BB (Nat.le_refl _)).more BB.size) hm).mono ?_
        rintro e x20 ⟨⟨go4, rfl, o4⟩, b20⟩
        have z_b20 := b20.size
        (try simp at z_b20)
        replace R0 := R0.below b20
        replace RS := RS.below b20
        replace RG := RG.below b20
        replace pKA := pKA.later b20 pKA.2.2.1
        replace pOA := pOA.later b20 pOA.2.2.1
        replace mK := mK.later b20 mK.2.2.1
        replace mO := mO.later b20 mO.2.2.1
        replace BB := BB.trans (b20.mono BB.size)
        have lo_o4 := o4.2.1
        have hi_o4 := o4.2.2.1
        (try simp at lo_o4)
        go_wp2_with fail
        refine (Bo.copied a k ka bs _ ((hr.later BB (Nat.le_refl _)).more BB.size) hk).mono ?_
        rintro e x21 ⟨⟨gf4, rfl, f4⟩, b21⟩
        have z_b21 := b21.size
        (try simp at z_b21)
        replace R0 := R0.below b21
        replace RS := RS.below b21
        replace RG := RG.below b21
        replace pKA := pKA.later b21 pKA.2.2.1
        replace pOA := pOA.later b21 pOA.2.2.1
        replace mK := mK.later b21 mK.2.2.1
        replace mO := mO.later b21 mO.2.2.1
        replace o4 := o4.later b21 o4.2.2.1
        replace BB := BB.trans (b21.mono BB.size)
        have lo_f4 := f4.2.1
        have hi_f4 := f4.2.2.1
        (try simp at lo_f4)
        go_wp2_with fail
        refine (Wl.i_NewWorld n l d r p s _ 0 m m _ k k bs os _ hzm o4.2.2.2.1 o4.2.2.1 f4.row hk hm).mono ?_
        rintro e x22 ⟨⟨hFH, hTH⟩, b22⟩
        have z_b22 := b22.size
        (try simp at z_b22)
        replace R0 := R0.below b22
        replace RS := RS.below b22
        replace RG := RG.below b22
        replace pKA := pKA.later b22 pKA.2.2.1
        replace pOA := pOA.later b22 pOA.2.2.1
        replace mK := mK.later b22 mK.2.2.1
        replace mO := mO.later b22 mO.2.2.1
        replace o4 := o4.later b22 o4.2.2.1
        replace f4 := f4.later b22 f4.2.2.1
        replace BB := BB.trans (b22.mono BB.size)
        obtain ⟨gKH, gOH, cKH, cOH, rfl, pKH, pOH, neH, leH, meH⟩ := hTH hq
        clear hFH hTH leH meH
        have lo_pKH := pKH.2.1
        have hi_pKH := pKH.2.2.1
        (try simp at lo_pKH)
        have lo_pOH := pOH.2.1
        have hi_pOH := pOH.2.2.1
        (try simp at lo_pOH)
        clear o4 f4
        have cRS0 := RS.cell 0 rfl
        have cRS1 := RS.cell 1 rfl
        have cRS2 := RS.cell 2 rfl
        have cRS3 := RS.cell 3 rfl
        have cRS4 := RS.cell 4 rfl
        have cRS5 := RS.cell 5 rfl
        have cRS6 := RS.cell 6 rfl
        have cRS7 := RS.cell 7 rfl
        have cRS8 := RS.cell 8 rfl
        have lRS := RS.lt (by simp)
        go_wp2_with fail
        clear cRS0 cRS1 cRS2 cRS3 cRS4 cRS5 cRS6 cRS7 cRS8 lRS
        have bn3 := (Below.refl x22.heap.size x22).alloc (Nat.le_refl _) (.cells #[.int .i64 n, .int .i64 l, .int .i64 d, .int .i64 r, .int .i64 p, .int .i64 s, .slice (some ⟨gKH, 0, none⟩) k cKH, .slice (some ⟨gOH, 0, none⟩) m cOH, .int .i64 0] 31)
        have z_bn3 := bn3.size
        have RH := Rm.Room.new x22 [.int .i64 n, .int .i64 l, .int .i64 d, .int .i64 r, .int .i64 p, .int .i64 s, .slice (some ⟨gKH, 0, none⟩) k cKH, .slice (some ⟨gOH, 0, none⟩) m cOH, .int .i64 0] 31
        replace R0 := R0.below bn3
        replace RS := RS.below bn3
        replace RG := RG.below bn3
        replace pKA := pKA.later bn3 pKA.2.2.1
        replace pOA := pOA.later bn3 pOA.2.2.1
        replace mK := mK.later bn3 mK.2.2.1
        replace mO := mO.later bn3 mO.2.2.1
        replace pKH := pKH.later bn3 pKH.2.2.1
        replace pOH := pOH.later bn3 pOH.2.2.1
        replace BB := BB.trans (bn3.mono BB.size)
        refine (Wl.eqWorld n l d r p s 0 _ _ _ _ k _ _ m _ _ (Wl.KL bs) os _ pKH.row pKA.row pOH.row pOA.row hk hm).mono ?_
        rintro e x23 ⟨rfl, b23⟩
        have z_b23 := b23.size
        (try simp at z_b23)
        replace R0 := R0.below b23
        replace RS := RS.below b23
        replace RG := RG.below b23
        replace RH := RH.below b23
        replace pKA := pKA.later b23 pKA.2.2.1
        replace pOA := pOA.later b23 pOA.2.2.1
        replace mK := mK.later b23 mK.2.2.1
        replace mO := mO.later b23 mO.2.2.1
        replace pKH := pKH.later b23 pKH.2.2.1
        replace pOH := pOH.later b23 pOH.2.2.1
        replace BB := BB.trans (b23.mono BB.size)
        have cRG0 := RG.cell 0 rfl
        have cRG1 := RG.cell 1 rfl
        have cRG2 := RG.cell 2 rfl
        have cRG3 := RG.cell 3 rfl
        have cRG4 := RG.cell 4 rfl
        have cRG5 := RG.cell 5 rfl
        have cRG6 := RG.cell 6 rfl
        have cRG7 := RG.cell 7 rfl
        have cRG8 := RG.cell 8 rfl
        have lRG := RG.lt (by simp)
        go_wp2_with fail
        refine (Wl.heldWorld n l d r p s 0 _ gKG 0 gOG 0 k _ m _ _ mK mO hk hm).mono ?_
        rintro e x24 ⟨rfl, b24⟩
        clear cRG0 cRG1 cRG2 cRG3 cRG4 cRG5 cRG6 cRG7 cRG8 lRG
        have z_b24 := b24.size
        (try simp at z_b24)
        replace R0 := R0.below b24
        replace RS := RS.below b24
        replace RG := RG.below b24
        replace RH := RH.below b24
        replace pKA := pKA.later b24 pKA.2.2.1
        replace pOA := pOA.later b24 pOA.2.2.1
        replace mK := mK.later b24 mK.2.2.1
        replace mO := mO.later b24 mO.2.2.1
        replace pKH := pKH.later b24 pKH.2.2.1
        replace pOH := pOH.later b24 pOH.2.2.1
        replace BB := BB.trans (b24.mono BB.size)
        go_wp2
        go_ret
        exact ⟨rfl, BB⟩

/-! The row. -/
set_option maxRecDepth 100000 in
theorem lifted (os : Os) (started : os.Started) (H : Type) (enc : TypeId × Value → H) :
    ReturnsInHanded {} Try.checked os 5 .any (Rows.fnExactNewWorldSpec.pre6 enc Try.prog Try.f5 Rows.fnExactNewWorldRow.domain false) (Rows.fnExactNewWorldSpec.post enc Try.prog Try.f5 false true false false) := by
  refine returnsInHanded_of_change (C := Try.checked) own started (by kernel_rfl) Try.func5
    (ChangeSpec.witness6 (enc := enc) (C := Try.checked) false ⟨#[], #[.agg #[.int .i64 0, .int .i64 0, .int .i64 0, .int .i64 0, .int .i64 0, .int .i64 0], .slice none 0 0, .slice none 0 0], []⟩ 8 (by kernel_rfl) (by kernel_rfl) (by kernel_rfl) (by kernel_rfl)) ?_
  intro W base args ds gs before hval0 hW hcnd _
  have hval : ∀ (j : Nat) t v, Try.f5.params[j]? = some t → args[j]? = some v → Value.okWide Try.prog W .any base t v := hval0
  have hW' := hW
  obtain ⟨p, q, hA0, hV, rfl, hfz, hnd⟩ := hW
  have hA : DataW.TrodAll enc Try.prog W 0 (fun _ => true) true Try.f5.params.toList args.toList ds p := hA0
  rw [Try.params5] at hA hval
  obtain ⟨v0, vs0, d0, ds0, p0, q0, hargs, rfl, rfl, h0, r0⟩ := trodAll_cons hA
  obtain ⟨v1, vs1, d1, ds1, p1, q1, rfl, rfl, rfl, h1, r1⟩ := trodAll_cons r0
  obtain ⟨v2, vs2, d2, ds2, p2, q2, rfl, rfl, rfl, h2, r2⟩ := trodAll_cons r1
  obtain ⟨rfl, rfl, rfl⟩ := trodAll_nil r2
  obtain rfl : args = #[v0, v1, v2] := by cases args; simp_all
  obtain ⟨rfl, rfl⟩ := trodVars_none hV
  have k0' := h0
  have lt0' : ∀ x ∈ p0, x.block < W.heap.size := by obtain ⟨m, hm⟩ := k0'; exact DataW.trod_lt m _ _ _ hm
  have rd0 := Rd.Reads.of h0
  obtain ⟨cs0, rfl, _⟩ := okWide_struct Try.underlying41 (hval 0 41 v0 rfl rfl)
  obtain ⟨n, l, d, r, p, s, rfl⟩ := Rd.config rd0
  have k1' := h1
  have lt1' : ∀ x ∈ p1, x.block < W.heap.size := by obtain ⟨m, hm⟩ := k1'; exact DataW.trod_lt m _ _ _ hm
  have rd1 := Rd.Reads.of h1
  obtain ⟨b, m, mb, rfl⟩ := okWide_slice Try.underlying26 (hval 1 26 v1 rfl rfl)
  obtain ⟨b_1, m_1, mb_1, os, e1, hs, lm, _⟩ := rd1.ints Try.underlying26 Try.underlying2 Rd.cells_int
  simp [Value.cells] at e1
  obtain ⟨rfl, rfl, rfl⟩ := e1
  have k2' := h2
  have lt2' : ∀ x ∈ p2, x.block < W.heap.size := by obtain ⟨m, hm⟩ := k2'; exact DataW.trod_lt m _ _ _ hm
  have rd2 := Rd.Reads.of h2
  obtain ⟨a, k, ka, rfl⟩ := okWide_slice Try.underlying27 (hval 2 27 v2 rfl rfl)
  obtain ⟨b_2, m_2, mb_2, bs, e2, hr, lk⟩ := rd2.bools Try.underlying27 Try.underlying4 Rd.cells_bool
  simp [Value.cells] at e2
  obtain ⟨rfl, rfl, rfl⟩ := e2
  clear hA0 hval0
  refine (walk n l d r p s b m mb os a k ka bs W hs lm hr lk).mono fun e W' ⟨he, bel⟩ => ?_
  subst he
  exact ⟨_, rfl, _, _, _, [], _, [], hW', trodAll_mk1 (shut_bool Try.underlying4 _), (trodAll_cons_mk (Below.trod laidOut (by kernel_rfl) (of_decide_eq_true (by kernel_rfl)) k0' bel lt0') (trodAll_cons_mk (Below.trod laidOut (by kernel_rfl) (of_decide_eq_true (by kernel_rfl)) k1' bel lt1') (trodAll_cons_mk (Below.trod laidOut (by kernel_rfl) (of_decide_eq_true (by kernel_rfl)) k2' bel lt2') trodAll_mk0))), rfl, bel.frame _, fun h => by cases h⟩

theorem over : Rows.fnExactNewWorldRow.holds Try.pinned (OpenSpec.ofChange Rows.fnExactNewWorldSpec) :=
  OpenClaim.holds_of_wide 5 Try.f5 rfl rfl rfl rfl rfl rfl rfl ⟨rfl, rfl, rfl, rfl, rfl⟩ rfl rfl rfl rfl rfl (by kernel_rfl) Try.func5 (by kernel_rfl)
    (of_decide_eq_true (by kernel_rfl)) (by unfold Func.isWrapper; first | (rw [if_pos (by decide +kernel)]; kernel_rfl) | (rw [if_neg (by decide +kernel)]; exact ⟨rfl, rfl⟩))
    (fun os started H enc _ => lifted os started H enc)

end Go.Proofs.Ytlalnlnnmlfbcaa.fnExactNewWorld

namespace Go.Proofs.Ytlalnlnnmlfbcaa
/-- The given statement. -/
theorem fnExactNewWorld_holds : Rows.FnExactNewWorldSaid := fnExactNewWorld.over
#print axioms fnExactNewWorld_holds
end Go.Proofs.Ytlalnlnnmlfbcaa
