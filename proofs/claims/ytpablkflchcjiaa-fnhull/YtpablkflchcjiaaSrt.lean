/-
  The library's contract of slices.Sort at []int64 of this program.
-/
import Derived.Test.YtpablkflchcjiaaRows
import Derived.Shelf.SortM.Plain
namespace Go.Proofs.Ytpablkflchcjiaa.Ow
open Go.Shelf Go.Sort
set_option linter.unusedVariables false

def mSort_ren : Go.Shelf.Ren := ⟨fun | 5 => 54 | 8 => 57 | 7 => 56 | 19 => 67 | 20 => 68 | 10 => 58 | 11 => 59 | 12 => 60 | 13 => 61 | 14 => 62 | 15 => 63 | 16 => 64 | 17 => 65 | 18 => 66 | 30 => 69 | 31 => 70 | 32 => 71 | 33 => 72 | 34 => 73 | 35 => 74 | 40 => 75 | n => n, fun | 23 => 27 | 25 => 2 | 3 => 3 | 32 => 48 | 22 => 27 | 0 => 0 | 44 => 77 | 46 => 26 | 4 => 4 | 36 => 69 | 35 => 68 | 41 => 74 | 5 => 5 | 9 => 9 | 53 => 79 | 57 => 83 | 63 => 85 | 64 => 86 | n => n, fun | n => n⟩

theorem mSort : Go.Proofs.SlLaysM.n5 Try.prog mSort_ren := {
    mixed := by kernel_rfl,
    f5 := ⟨Try.f54.name, by decide, Try.func54.trans (congrArg some (by kernel_rfl))⟩,
    f7 := ⟨Try.f56.name, by decide, Try.func56.trans (congrArg some (by kernel_rfl))⟩,
    f8 := Try.func57.trans (congrArg some (by kernel_rfl)),
    f10 := ⟨Try.f58.name, by decide, Try.func58.trans (congrArg some (by kernel_rfl))⟩,
    f11 := ⟨Try.f59.name, by decide, Try.func59.trans (congrArg some (by kernel_rfl))⟩,
    f12 := ⟨Try.f60.name, by decide, Try.func60.trans (congrArg some (by kernel_rfl))⟩,
    f13 := ⟨Try.f61.name, by decide, Try.func61.trans (congrArg some (by kernel_rfl))⟩,
    f14 := ⟨Try.f62.name, by decide, Try.func62.trans (congrArg some (by kernel_rfl))⟩,
    f15 := ⟨Try.f63.name, by decide, Try.func63.trans (congrArg some (by kernel_rfl))⟩,
    f16 := ⟨Try.f64.name, by decide, Try.func64.trans (congrArg some (by kernel_rfl))⟩,
    f17 := ⟨Try.f65.name, by decide, Try.func65.trans (congrArg some (by kernel_rfl))⟩,
    f18 := ⟨Try.f66.name, by decide, Try.func66.trans (congrArg some (by kernel_rfl))⟩,
    f19 := Try.func67.trans (congrArg some (by kernel_rfl)),
    f20 := Try.func68.trans (congrArg some (by kernel_rfl)),
    f30 := ⟨Try.f69.name, by decide, Try.func69.trans (congrArg some (by kernel_rfl))⟩,
    f31 := Try.func70.trans (congrArg some (by kernel_rfl)),
    f32 := Try.func71.trans (congrArg some (by kernel_rfl)),
    f33 := ⟨Try.f72.name, by decide, Try.func72.trans (congrArg some (by kernel_rfl))⟩,
    f34 := ⟨Try.f73.name, by decide, Try.func73.trans (congrArg some (by kernel_rfl))⟩,
    f35 := ⟨Try.f74.name, by decide, Try.func74.trans (congrArg some (by kernel_rfl))⟩,
    f40 := ⟨Try.f75.name, by decide, Try.func75.trans (congrArg some (by kernel_rfl))⟩,
    t0 := Try.underlying0,
    a0 := Try.isAgg0,
    z0 := Try.sizeOf0,
    v0 := Try.zeroValue0,
    t3 := Try.underlying3,
    a3 := Try.isAgg3,
    z3 := Try.sizeOf3,
    v3 := Try.zeroValue3,
    t4 := Try.underlying4,
    a4 := Try.isAgg4,
    z4 := Try.sizeOf4,
    v4 := Try.zeroValue4,
    t5 := Try.underlying5,
    a5 := Try.isAgg5,
    z5 := Try.sizeOf5,
    v5 := Try.zeroValue5,
    t9 := Try.underlying9,
    a9 := Try.isAgg9,
    z9 := Try.sizeOf9,
    v9 := Try.zeroValue9,
    t22 := Try.underlying27,
    a22 := Try.isAgg27,
    z22 := Try.sizeOf27,
    v22 := Try.zeroValue27,
    t23 := Try.underlying27,
    a23 := Try.isAgg27,
    z23 := Try.sizeOf27,
    v23 := Try.zeroValue27,
    t25 := Try.underlying2,
    a25 := Try.isAgg2,
    z25 := Try.sizeOf2,
    v25 := Try.zeroValue2,
    t32 := Try.underlying48,
    a32 := Try.isAgg48,
    z32 := Try.sizeOf48,
    v32 := Try.zeroValue48,
    t35 := Try.underlying68,
    a35 := Try.isAgg68,
    z35 := Try.sizeOf68,
    v35 := Try.zeroValue68,
    t36 := Try.underlying69,
    a36 := Try.isAgg69,
    z36 := Try.sizeOf69,
    v36 := Try.zeroValue69,
    t41 := Try.underlying74,
    a41 := Try.isAgg74,
    z41 := Try.sizeOf74,
    v41 := Try.zeroValue74,
    t44 := Try.underlying77,
    a44 := Try.isAgg77,
    z44 := Try.sizeOf77,
    v44 := Try.zeroValue77,
    t46 := Try.underlying26,
    a46 := Try.isAgg26,
    z46 := Try.sizeOf26,
    v46 := Try.zeroValue26,
    t53 := Try.underlying79,
    a53 := Try.isAgg79,
    z53 := Try.sizeOf79,
    v53 := Try.zeroValue79,
    t57 := Try.underlying83,
    a57 := Try.isAgg83,
    z57 := Try.sizeOf83,
    v57 := Try.zeroValue83,
    t63 := Try.underlying85,
    a63 := Try.isAgg85,
    z63 := Try.sizeOf85,
    v63 := Try.zeroValue85,
    t64 := Try.underlying86,
    a64 := Try.isAgg86,
    z64 := Try.sizeOf86,
    v64 := Try.zeroValue86 }

/-- The sorted list. -/
def srt (zs : List Int) : List Int := zs.mergeSort fun x y => decide (x ≤ y)

theorem slices_Sort (blk off cap : Nat) (zs : List Int) (w : World) (hH : Holds (Value.int .i64) w blk off zs.toArray) (hblk : blk < w.heap.size) (hsz : zs.length < 4611686018427387904) :
    Calls Try.prog 54 #[.slice (some ⟨blk, off, none⟩) zs.length cap] w fun e w' =>
      e = .returned (.tuple #[]) ∧ ∃ n os, w' = grow (putRow (Value.int .i64) (Sort.ahead w n) blk off (srt zs).toArray) os :=
  AnyM.slices_Sort_int mSort blk off cap zs w hH hblk hsz

end Go.Proofs.Ytpablkflchcjiaa.Ow
