/-
  The library's contract of slices.Sort at []int64 of this program.
-/
import Derived.Test.YtnocmfhlmpgbmaaGreatRows
import Derived.Shelf.SortM.Plain
namespace Go.Proofs.YtnocmfhlmpgbmaaGreat.Ow
open Go.Shelf Go.Sort
set_option linter.unusedVariables false

def mSort_ren : Go.Shelf.Ren := ⟨fun | 5 => 113 | 8 => 117 | 7 => 116 | 19 => 128 | 20 => 129 | 10 => 119 | 11 => 120 | 12 => 121 | 13 => 122 | 14 => 123 | 15 => 124 | 16 => 125 | 17 => 126 | 18 => 127 | 30 => 131 | 31 => 132 | 32 => 133 | 33 => 134 | 34 => 135 | 35 => 136 | 40 => 137 | n => n, fun | 23 => 26 | 25 => 2 | 3 => 3 | 32 => 106 | 22 => 26 | 0 => 0 | 44 => 126 | 46 => 128 | 4 => 4 | 36 => 118 | 35 => 117 | 41 => 123 | 5 => 5 | 9 => 9 | 53 => 129 | 57 => 133 | 63 => 135 | 64 => 136 | n => n, fun | n => n⟩

theorem mSort : Go.Proofs.SlLaysM.n5 Tryz.prog mSort_ren := {
    mixed := by kernel_rfl,
    f5 := ⟨Tryz.f113.name, by decide, Tryz.func113.trans (congrArg some (by kernel_rfl))⟩,
    f7 := ⟨Tryz.f116.name, by decide, Tryz.func116.trans (congrArg some (by kernel_rfl))⟩,
    f8 := Tryz.func117.trans (congrArg some (by kernel_rfl)),
    f10 := ⟨Tryz.f119.name, by decide, Tryz.func119.trans (congrArg some (by kernel_rfl))⟩,
    f11 := ⟨Tryz.f120.name, by decide, Tryz.func120.trans (congrArg some (by kernel_rfl))⟩,
    f12 := ⟨Tryz.f121.name, by decide, Tryz.func121.trans (congrArg some (by kernel_rfl))⟩,
    f13 := ⟨Tryz.f122.name, by decide, Tryz.func122.trans (congrArg some (by kernel_rfl))⟩,
    f14 := ⟨Tryz.f123.name, by decide, Tryz.func123.trans (congrArg some (by kernel_rfl))⟩,
    f15 := ⟨Tryz.f124.name, by decide, Tryz.func124.trans (congrArg some (by kernel_rfl))⟩,
    f16 := ⟨Tryz.f125.name, by decide, Tryz.func125.trans (congrArg some (by kernel_rfl))⟩,
    f17 := ⟨Tryz.f126.name, by decide, Tryz.func126.trans (congrArg some (by kernel_rfl))⟩,
    f18 := ⟨Tryz.f127.name, by decide, Tryz.func127.trans (congrArg some (by kernel_rfl))⟩,
    f19 := Tryz.func128.trans (congrArg some (by kernel_rfl)),
    f20 := Tryz.func129.trans (congrArg some (by kernel_rfl)),
    f30 := ⟨Tryz.f131.name, by decide, Tryz.func131.trans (congrArg some (by kernel_rfl))⟩,
    f31 := Tryz.func132.trans (congrArg some (by kernel_rfl)),
    f32 := Tryz.func133.trans (congrArg some (by kernel_rfl)),
    f33 := ⟨Tryz.f134.name, by decide, Tryz.func134.trans (congrArg some (by kernel_rfl))⟩,
    f34 := ⟨Tryz.f135.name, by decide, Tryz.func135.trans (congrArg some (by kernel_rfl))⟩,
    f35 := ⟨Tryz.f136.name, by decide, Tryz.func136.trans (congrArg some (by kernel_rfl))⟩,
    f40 := ⟨Tryz.f137.name, by decide, Tryz.func137.trans (congrArg some (by kernel_rfl))⟩,
    t0 := Tryz.underlying0,
    a0 := Tryz.isAgg0,
    z0 := Tryz.sizeOf0,
    v0 := Tryz.zeroValue0,
    t3 := Tryz.underlying3,
    a3 := Tryz.isAgg3,
    z3 := Tryz.sizeOf3,
    v3 := Tryz.zeroValue3,
    t4 := Tryz.underlying4,
    a4 := Tryz.isAgg4,
    z4 := Tryz.sizeOf4,
    v4 := Tryz.zeroValue4,
    t5 := Tryz.underlying5,
    a5 := Tryz.isAgg5,
    z5 := Tryz.sizeOf5,
    v5 := Tryz.zeroValue5,
    t9 := Tryz.underlying9,
    a9 := Tryz.isAgg9,
    z9 := Tryz.sizeOf9,
    v9 := Tryz.zeroValue9,
    t22 := Tryz.underlying26,
    a22 := Tryz.isAgg26,
    z22 := Tryz.sizeOf26,
    v22 := Tryz.zeroValue26,
    t23 := Tryz.underlying26,
    a23 := Tryz.isAgg26,
    z23 := Tryz.sizeOf26,
    v23 := Tryz.zeroValue26,
    t25 := Tryz.underlying2,
    a25 := Tryz.isAgg2,
    z25 := Tryz.sizeOf2,
    v25 := Tryz.zeroValue2,
    t32 := Tryz.underlying106,
    a32 := Tryz.isAgg106,
    z32 := Tryz.sizeOf106,
    v32 := Tryz.zeroValue106,
    t35 := Tryz.underlying117,
    a35 := Tryz.isAgg117,
    z35 := Tryz.sizeOf117,
    v35 := Tryz.zeroValue117,
    t36 := Tryz.underlying118,
    a36 := Tryz.isAgg118,
    z36 := Tryz.sizeOf118,
    v36 := Tryz.zeroValue118,
    t41 := Tryz.underlying123,
    a41 := Tryz.isAgg123,
    z41 := Tryz.sizeOf123,
    v41 := Tryz.zeroValue123,
    t44 := Tryz.underlying126,
    a44 := Tryz.isAgg126,
    z44 := Tryz.sizeOf126,
    v44 := Tryz.zeroValue126,
    t46 := Tryz.underlying128,
    a46 := Tryz.isAgg128,
    z46 := Tryz.sizeOf128,
    v46 := Tryz.zeroValue128,
    t53 := Tryz.underlying129,
    a53 := Tryz.isAgg129,
    z53 := Tryz.sizeOf129,
    v53 := Tryz.zeroValue129,
    t57 := Tryz.underlying133,
    a57 := Tryz.isAgg133,
    z57 := Tryz.sizeOf133,
    v57 := Tryz.zeroValue133,
    t63 := Tryz.underlying135,
    a63 := Tryz.isAgg135,
    z63 := Tryz.sizeOf135,
    v63 := Tryz.zeroValue135,
    t64 := Tryz.underlying136,
    a64 := Tryz.isAgg136,
    z64 := Tryz.sizeOf136,
    v64 := Tryz.zeroValue136 }

/-- The sorted list. -/
def srt (zs : List Int) : List Int := zs.mergeSort fun x y => decide (x ≤ y)

theorem slices_Sort (blk off cap : Nat) (zs : List Int) (w : World) (hH : Holds (Value.int .i64) w blk off zs.toArray) (hblk : blk < w.heap.size) (hsz : zs.length < 4611686018427387904) :
    Calls Tryz.prog 113 #[.slice (some ⟨blk, off, none⟩) zs.length cap] w fun e w' =>
      e = .returned (.tuple #[]) ∧ ∃ n os, w' = grow (putRow (Value.int .i64) (Sort.ahead w n) blk off (srt zs).toArray) os :=
  AnyM.slices_Sort_int mSort blk off cap zs w hH hblk hsz

end Go.Proofs.YtnocmfhlmpgbmaaGreat.Ow
