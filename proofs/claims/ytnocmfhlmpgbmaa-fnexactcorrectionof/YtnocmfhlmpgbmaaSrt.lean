/-
  The library's contract of slices.Sort at []int64 of this program.
-/
import Derived.Test.YtnocmfhlmpgbmaaRows
import Derived.Shelf.SortM.Plain
namespace Go.Proofs.Ytnocmfhlmpgbmaa.Ow
open Go.Shelf Go.Sort
set_option linter.unusedVariables false

def mSort_ren : Go.Shelf.Ren := ⟨fun | 5 => 90 | 8 => 95 | 7 => 94 | 19 => 109 | 20 => 110 | 10 => 100 | 11 => 101 | 12 => 102 | 13 => 103 | 14 => 104 | 15 => 105 | 16 => 106 | 17 => 107 | 18 => 108 | 30 => 113 | 31 => 114 | 32 => 115 | 33 => 116 | 34 => 117 | 35 => 118 | 40 => 120 | n => n, fun | 23 => 29 | 25 => 2 | 3 => 3 | 32 => 96 | 22 => 29 | 0 => 0 | 44 => 120 | 46 => 26 | 4 => 4 | 36 => 112 | 35 => 111 | 41 => 117 | 5 => 5 | 9 => 9 | 53 => 122 | 57 => 126 | 63 => 128 | 64 => 129 | n => n, fun | n => n⟩

theorem mSort : Go.Proofs.SlLaysM.n5 Try.prog mSort_ren := {
    mixed := by kernel_rfl,
    f5 := ⟨Try.f90.name, by decide, Try.func90.trans (congrArg some (by kernel_rfl))⟩,
    f7 := ⟨Try.f94.name, by decide, Try.func94.trans (congrArg some (by kernel_rfl))⟩,
    f8 := Try.func95.trans (congrArg some (by kernel_rfl)),
    f10 := ⟨Try.f100.name, by decide, Try.func100.trans (congrArg some (by kernel_rfl))⟩,
    f11 := ⟨Try.f101.name, by decide, Try.func101.trans (congrArg some (by kernel_rfl))⟩,
    f12 := ⟨Try.f102.name, by decide, Try.func102.trans (congrArg some (by kernel_rfl))⟩,
    f13 := ⟨Try.f103.name, by decide, Try.func103.trans (congrArg some (by kernel_rfl))⟩,
    f14 := ⟨Try.f104.name, by decide, Try.func104.trans (congrArg some (by kernel_rfl))⟩,
    f15 := ⟨Try.f105.name, by decide, Try.func105.trans (congrArg some (by kernel_rfl))⟩,
    f16 := ⟨Try.f106.name, by decide, Try.func106.trans (congrArg some (by kernel_rfl))⟩,
    f17 := ⟨Try.f107.name, by decide, Try.func107.trans (congrArg some (by kernel_rfl))⟩,
    f18 := ⟨Try.f108.name, by decide, Try.func108.trans (congrArg some (by kernel_rfl))⟩,
    f19 := Try.func109.trans (congrArg some (by kernel_rfl)),
    f20 := Try.func110.trans (congrArg some (by kernel_rfl)),
    f30 := ⟨Try.f113.name, by decide, Try.func113.trans (congrArg some (by kernel_rfl))⟩,
    f31 := Try.func114.trans (congrArg some (by kernel_rfl)),
    f32 := Try.func115.trans (congrArg some (by kernel_rfl)),
    f33 := ⟨Try.f116.name, by decide, Try.func116.trans (congrArg some (by kernel_rfl))⟩,
    f34 := ⟨Try.f117.name, by decide, Try.func117.trans (congrArg some (by kernel_rfl))⟩,
    f35 := ⟨Try.f118.name, by decide, Try.func118.trans (congrArg some (by kernel_rfl))⟩,
    f40 := ⟨Try.f120.name, by decide, Try.func120.trans (congrArg some (by kernel_rfl))⟩,
    t0 := Try.underlying0,
    a0 := Try.isAgg0,
    z0 := Try.sizeOf0,
    v0 := Try.zeroValue0,
    t3 := Try.underlying3,
    a3 := Try.isAgg3,
    z3 := Try.sizeOf3,
    v3 := Try.zeroValue3,
    t4 := Try.underlying4,
    a4 := Try.isAgg4,
    z4 := Try.sizeOf4,
    v4 := Try.zeroValue4,
    t5 := Try.underlying5,
    a5 := Try.isAgg5,
    z5 := Try.sizeOf5,
    v5 := Try.zeroValue5,
    t9 := Try.underlying9,
    a9 := Try.isAgg9,
    z9 := Try.sizeOf9,
    v9 := Try.zeroValue9,
    t22 := Try.underlying29,
    a22 := Try.isAgg29,
    z22 := Try.sizeOf29,
    v22 := Try.zeroValue29,
    t23 := Try.underlying29,
    a23 := Try.isAgg29,
    z23 := Try.sizeOf29,
    v23 := Try.zeroValue29,
    t25 := Try.underlying2,
    a25 := Try.isAgg2,
    z25 := Try.sizeOf2,
    v25 := Try.zeroValue2,
    t32 := Try.underlying96,
    a32 := Try.isAgg96,
    z32 := Try.sizeOf96,
    v32 := Try.zeroValue96,
    t35 := Try.underlying111,
    a35 := Try.isAgg111,
    z35 := Try.sizeOf111,
    v35 := Try.zeroValue111,
    t36 := Try.underlying112,
    a36 := Try.isAgg112,
    z36 := Try.sizeOf112,
    v36 := Try.zeroValue112,
    t41 := Try.underlying117,
    a41 := Try.isAgg117,
    z41 := Try.sizeOf117,
    v41 := Try.zeroValue117,
    t44 := Try.underlying120,
    a44 := Try.isAgg120,
    z44 := Try.sizeOf120,
    v44 := Try.zeroValue120,
    t46 := Try.underlying26,
    a46 := Try.isAgg26,
    z46 := Try.sizeOf26,
    v46 := Try.zeroValue26,
    t53 := Try.underlying122,
    a53 := Try.isAgg122,
    z53 := Try.sizeOf122,
    v53 := Try.zeroValue122,
    t57 := Try.underlying126,
    a57 := Try.isAgg126,
    z57 := Try.sizeOf126,
    v57 := Try.zeroValue126,
    t63 := Try.underlying128,
    a63 := Try.isAgg128,
    z63 := Try.sizeOf128,
    v63 := Try.zeroValue128,
    t64 := Try.underlying129,
    a64 := Try.isAgg129,
    z64 := Try.sizeOf129,
    v64 := Try.zeroValue129 }

/-- The sorted list. -/
def srt (zs : List Int) : List Int := zs.mergeSort fun x y => decide (x ≤ y)

theorem slices_Sort (blk off cap : Nat) (zs : List Int) (w : World) (hH : Holds (Value.int .i64) w blk off zs.toArray) (hblk : blk < w.heap.size) (hsz : zs.length < 4611686018427387904) :
    Calls Try.prog 90 #[.slice (some ⟨blk, off, none⟩) zs.length cap] w fun e w' =>
      e = .returned (.tuple #[]) ∧ ∃ n os, w' = grow (putRow (Value.int .i64) (Sort.ahead w n) blk off (srt zs).toArray) os :=
  AnyM.slices_Sort_int mSort blk off cap zs w hH hblk hsz

end Go.Proofs.Ytnocmfhlmpgbmaa.Ow
