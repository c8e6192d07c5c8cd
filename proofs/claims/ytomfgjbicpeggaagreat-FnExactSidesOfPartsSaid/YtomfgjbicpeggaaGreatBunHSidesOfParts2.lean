/-
  DERIVED: THE SHELF's CONTRACTS AT THIS DUMP, IN PLAIN WORDS (tools/lay-plain.mjs out of 'TryzShelf.lean', which tools/lay-shelf.mjs wrote): THE SAME DECLARATIONS UNDER THE SAME NAMES: 'import', 'namespace', 'open', 'def', 'theorem' AND NOTHING ELSE: no command of the shelf's: FOR A HAND-IN. Each laying: the table of numbers ('.._ren') and one theorem, a field a fact of the dump's own or the kernel's comparison; each contract: ONE APPLICATION.
  DERIVED: THE SHELF's CONTRACTS AT THIS DUMP, IN PLAIN WORDS (tools/lay-plain.mjs out of 'TryzSortfShelf.lean', which tools/lay-shelf.mjs wrote): THE SAME DECLARATIONS UNDER THE SAME NAMES: 'import', 'namespace', 'open', 'def', 'theorem' AND NOTHING ELSE: no command of the shelf's: FOR A HAND-IN. Each laying: the table of numbers ('.._ren') and one theorem, a field a fact of the dump's own or the kernel's comparison; each contract: ONE APPLICATION.
  Plain functions and facts on numbers and lists: what leapers and boards are. No program is named here.
  Plain functions and facts: the cells of a board in order.
  Contracts: leapers, sizes, boards, in the program and in its model.
  Contracts: boards, in the program and in its model.
  Contracts: leaps on plain boards, by the sizes alone; plain boards.
  Contracts: spots compared.
  Contracts: slices.Compact at spots.
-/
import Derived.Shelf.Small.Bits
import Derived.Shelf.Small.Wraps
import Derived.Shelf.Strconv.Itoa0
import Derived.Shelf.Sort.Plain
import Derived.Ground.Names2Prog
import Derived.Shelf.Slices.SearchI
import Derived.Shelf.Slices.In.SortNone
import Derived.Shelf.Slices.Empties
import Derived.Test.YtomfgjbicpeggaaGreatProg
import Derived.Shelf.SlSortCmp.WholeK
import Derived.Ground.SlsfProg
import Derived.Test.YtomfgjbicpeggaaGreatBunHSidesOfParts1
import Derived.Deep.RegionHeld3
import Derived.Outline
import Derived.Lib.SlicesCompact
import Derived.Laws.StructEq
namespace Go.Proofs
open Go.Shelf
def Tryz.lays128_ren : Go.Shelf.Ren := ⟨fun | 128 => 75 | n => n, fun | 51 => 109 | 3 => 3 | 4 => 4 | 46 => 88 | 5 => 5 | 9 => 9 | n => n, fun | n => n⟩
theorem Tryz.lays128 : Go.Proofs.Lays.n128 Tryz.prog Tryz.lays128_ren := {
  mixed := by kernel_rfl
  f128 := Tryz.func75.trans (congrArg some (by kernel_rfl))
  t3 := Tryz.underlying3
  a3 := Tryz.isAgg3
  z3 := Tryz.sizeOf3
  v3 := Tryz.zeroValue3
  t4 := Tryz.underlying4
  a4 := Tryz.isAgg4
  z4 := Tryz.sizeOf4
  v4 := Tryz.zeroValue4
  t5 := Tryz.underlying5
  a5 := Tryz.isAgg5
  z5 := Tryz.sizeOf5
  v5 := Tryz.zeroValue5
  t9 := Tryz.underlying9
  a9 := Tryz.isAgg9
  z9 := Tryz.sizeOf9
  v9 := Tryz.zeroValue9
  t46 := Tryz.underlying88
  a46 := Tryz.isAgg88
  z46 := Tryz.sizeOf88
  v46 := Tryz.zeroValue88
  t51 := Tryz.underlying109
  a51 := Tryz.isAgg109
  z51 := Tryz.sizeOf109
  v51 := Tryz.zeroValue109 }
/-- bits.Len32: "Len32 returns the minimum number of bits required to represent x; the result is 0 for x == 0.": IT RETURNS 'Lib.bitLen x'; the world is as it was. ('h0', 'h1': x is a uint32.) (LAID: no walk: one application.) -/
theorem Tryz.bits_Len32 (x : Int) (w : World) (h0 : 0 ≤ x) (h1 : x ≤ 4294967295) :
    Calls Tryz.prog 75 #[.int .u32 x] w fun e w' => e = .returned (.int .i64 (Lib.bitLen x.toNat)) ∧ w' = w := Any.bits_Len32 Tryz.lays128 x w h0 h1
def Tryz.lays125_ren : Go.Shelf.Ren := ⟨fun | 125 => 61 | 128 => 75 | 129 => 76 | n => n, fun | 46 => 88 | 3 => 3 | 51 => 109 | 53 => 50 | 4 => 4 | 5 => 5 | 9 => 9 | n => n, fun | n => n⟩
theorem Tryz.lays125 : Go.Proofs.Lays.n125 Tryz.prog Tryz.lays125_ren := {
  mixed := by kernel_rfl
  f125 := Tryz.func61.trans (congrArg some (by kernel_rfl))
  f128 := Tryz.func75.trans (congrArg some (by kernel_rfl))
  f129 := Tryz.func76.trans (congrArg some (by kernel_rfl))
  t3 := Tryz.underlying3
  a3 := Tryz.isAgg3
  z3 := Tryz.sizeOf3
  v3 := Tryz.zeroValue3
  t4 := Tryz.underlying4
  a4 := Tryz.isAgg4
  z4 := Tryz.sizeOf4
  v4 := Tryz.zeroValue4
  t5 := Tryz.underlying5
  a5 := Tryz.isAgg5
  z5 := Tryz.sizeOf5
  v5 := Tryz.zeroValue5
  t9 := Tryz.underlying9
  a9 := Tryz.isAgg9
  z9 := Tryz.sizeOf9
  v9 := Tryz.zeroValue9
  t46 := Tryz.underlying88
  a46 := Tryz.isAgg88
  z46 := Tryz.sizeOf88
  v46 := Tryz.zeroValue88
  t51 := Tryz.underlying109
  a51 := Tryz.isAgg109
  z51 := Tryz.sizeOf109
  v51 := Tryz.zeroValue109
  t53 := Tryz.underlying50
  a53 := Tryz.isAgg50
  z53 := Tryz.sizeOf50
  v53 := Tryz.zeroValue50 }
/-- bits.Len: "Len returns the minimum number of bits required to represent x; the result is 0 for x == 0.": IT RETURNS 'Lib.bitLen x'; the world is as it was. (A uint has 64 bits in the model.) ITS CALLEE bits.Len64 IS MET BY ITS OWN CONTRACT OFF THE SHELF (lay that first). (LAID: no walk: one application.) -/
theorem Tryz.bits_Len (x : Int) (w : World) (h0 : 0 ≤ x) (h1 : x ≤ 18446744073709551615) :
    Calls Tryz.prog 61 #[.int .u64 x] w fun e w' => e = .returned (.int .i64 (Lib.bitLen x.toNat)) ∧ w' = w := Any.bits_Len Tryz.lays125 x w h0 h1
def Tryz.lays215_ren : Go.Shelf.Ren := ⟨fun | 215 => 63 | n => n, fun | 3 => 3 | 4 => 4 | n => n, fun | n => n⟩
theorem Tryz.lays215 : Go.Proofs.Lays.n215 Tryz.prog Tryz.lays215_ren := {
  mixed := by kernel_rfl
  f215 := Tryz.func63.trans (congrArg some (by kernel_rfl))
  t3 := Tryz.underlying3
  a3 := Tryz.isAgg3
  z3 := Tryz.sizeOf3
  v3 := Tryz.zeroValue3
  t4 := Tryz.underlying4
  a4 := Tryz.isAgg4
  z4 := Tryz.sizeOf4
  v4 := Tryz.zeroValue4 }
open Go.RowKit in
/-- cmp.isNaN at int: 'x != x': false. (LAID: no walk: one application.) -/
theorem Tryz.cmp_isNaN_int (x : Int) (w : World) :
    Calls Tryz.prog 63 #[.int .i64 x] w fun e w' => e = .returned (.bool false) ∧ w' = w := Any.cmp_isNaN_int Tryz.lays215 x w
def Tryz.lays122_ren : Go.Shelf.Ren := ⟨fun | 122 => 80 | 215 => 63 | n => n, fun | 3 => 3 | 4 => 4 | n => n, fun | n => n⟩
theorem Tryz.lays122 : Go.Proofs.Lays.n122 Tryz.prog Tryz.lays122_ren := {
  mixed := by kernel_rfl
  f122 := Tryz.func80.trans (congrArg some (by kernel_rfl))
  f215 := Tryz.func63.trans (congrArg some (by kernel_rfl))
  t3 := Tryz.underlying3
  a3 := Tryz.isAgg3
  z3 := Tryz.sizeOf3
  v3 := Tryz.zeroValue3
  t4 := Tryz.underlying4
  a4 := Tryz.isAgg4
  z4 := Tryz.sizeOf4
  v4 := Tryz.zeroValue4 }
open Go.RowKit in
/-- cmp.Compare at int: "Compare returns -1 if x is less than y, 0 if x equals y, +1 if x is greater than y.": IT RETURNS 'Lib.compareInt x y'; the world is as it was. (LAID: no walk: one application.) -/
theorem Tryz.cmp_Compare_int (x y : Int) (w : World) :
    Calls Tryz.prog 80 #[.int .i64 x, .int .i64 y] w fun e w' => e = .returned (.int .i64 (Lib.compareInt x y)) ∧ w' = w := Any.cmp_Compare_int Tryz.lays122 x y w
def Tryz.lays129_ren : Go.Shelf.Ren := ⟨fun | 129 => 76 | n => n, fun | 53 => 50 | 3 => 3 | 4 => 4 | 46 => 88 | 5 => 5 | 9 => 9 | n => n, fun | n => n⟩
theorem Tryz.lays129 : Go.Proofs.Lays.n129 Tryz.prog Tryz.lays129_ren := {
  mixed := by kernel_rfl
  f129 := Tryz.func76.trans (congrArg some (by kernel_rfl))
  t3 := Tryz.underlying3
  a3 := Tryz.isAgg3
  z3 := Tryz.sizeOf3
  v3 := Tryz.zeroValue3
  t4 := Tryz.underlying4
  a4 := Tryz.isAgg4
  z4 := Tryz.sizeOf4
  v4 := Tryz.zeroValue4
  t5 := Tryz.underlying5
  a5 := Tryz.isAgg5
  z5 := Tryz.sizeOf5
  v5 := Tryz.zeroValue5
  t9 := Tryz.underlying9
  a9 := Tryz.isAgg9
  z9 := Tryz.sizeOf9
  v9 := Tryz.zeroValue9
  t46 := Tryz.underlying88
  a46 := Tryz.isAgg88
  z46 := Tryz.sizeOf88
  v46 := Tryz.zeroValue88
  t53 := Tryz.underlying50
  a53 := Tryz.isAgg50
  z53 := Tryz.sizeOf50
  v53 := Tryz.zeroValue50 }
/-- bits.Len64: "Len64 returns the minimum number of bits required to represent x; the result is 0 for x == 0.": IT RETURNS 'Lib.bitLen x'; the world is as it was. ('h0', 'h1': x is a uint64.) (LAID: no walk: one application.) -/
theorem Tryz.bits_Len64 (x : Int) (w : World) (h0 : 0 ≤ x) (h1 : x ≤ 18446744073709551615) :
    Calls Tryz.prog 76 #[.int .u64 x] w fun e w' => e = .returned (.int .i64 (Lib.bitLen x.toNat)) ∧ w' = w := Any.bits_Len64 Tryz.lays129 x w h0 h1
def Tryz.lays189_ren : Go.Shelf.Ren := ⟨fun | 189 => 52 | 125 => 61 | 257 => 60 | 128 => 75 | 129 => 76 | 294 => 67 | 295 => 68 | 296 => 69 | 297 => 70 | 298 => 71 | 299 => 72 | 216 => 55 | 300 => 73 | 301 => 74 | 328 => 81 | 329 => 82 | 330 => 83 | 331 => 84 | 332 => 85 | 215 => 63 | 343 => 94 | n => n, fun | 28 => 22 | 3 => 3 | 46 => 88 | 0 => 0 | 51 => 109 | 53 => 50 | 4 => 4 | 183 => 104 | 182 => 103 | 131 => 77 | 5 => 5 | 9 => 9 | 218 => 113 | 222 => 117 | 228 => 124 | 229 => 125 | n => n, fun | n => n⟩
theorem Tryz.lays189 : Go.Proofs.Lays.n189 Tryz.prog Tryz.lays189_ren := {
  mixed := by kernel_rfl
  f125 := Tryz.func61.trans (congrArg some (by kernel_rfl))
  f128 := Tryz.func75.trans (congrArg some (by kernel_rfl))
  f129 := Tryz.func76.trans (congrArg some (by kernel_rfl))
  f189 := Tryz.func52.trans (congrArg some (by kernel_rfl))
  f215 := Tryz.func63.trans (congrArg some (by kernel_rfl))
  f216 := Tryz.func55.trans (congrArg some (by kernel_rfl))
  f257 := Tryz.func60.trans (congrArg some (by kernel_rfl))
  f294 := Tryz.func67.trans (congrArg some (by kernel_rfl))
  f295 := Tryz.func68.trans (congrArg some (by kernel_rfl))
  f296 := Tryz.func69.trans (congrArg some (by kernel_rfl))
  f297 := Tryz.func70.trans (congrArg some (by kernel_rfl))
  f298 := Tryz.func71.trans (congrArg some (by kernel_rfl))
  f299 := Tryz.func72.trans (congrArg some (by kernel_rfl))
  f300 := Tryz.func73.trans (congrArg some (by kernel_rfl))
  f301 := Tryz.func74.trans (congrArg some (by kernel_rfl))
  f328 := Tryz.func81.trans (congrArg some (by kernel_rfl))
  f329 := Tryz.func82.trans (congrArg some (by kernel_rfl))
  f330 := Tryz.func83.trans (congrArg some (by kernel_rfl))
  f331 := Tryz.func84.trans (congrArg some (by kernel_rfl))
  f332 := Tryz.func85.trans (congrArg some (by kernel_rfl))
  f343 := Tryz.func94.trans (congrArg some (by kernel_rfl))
  t0 := Tryz.underlying0
  a0 := Tryz.isAgg0
  z0 := Tryz.sizeOf0
  v0 := Tryz.zeroValue0
  t3 := Tryz.underlying3
  a3 := Tryz.isAgg3
  z3 := Tryz.sizeOf3
  v3 := Tryz.zeroValue3
  t4 := Tryz.underlying4
  a4 := Tryz.isAgg4
  z4 := Tryz.sizeOf4
  v4 := Tryz.zeroValue4
  t5 := Tryz.underlying5
  a5 := Tryz.isAgg5
  z5 := Tryz.sizeOf5
  v5 := Tryz.zeroValue5
  t9 := Tryz.underlying9
  a9 := Tryz.isAgg9
  z9 := Tryz.sizeOf9
  v9 := Tryz.zeroValue9
  t28 := Tryz.underlying22
  a28 := Tryz.isAgg22
  z28 := Tryz.sizeOf22
  v28 := Tryz.zeroValue22
  t46 := Tryz.underlying88
  a46 := Tryz.isAgg88
  z46 := Tryz.sizeOf88
  v46 := Tryz.zeroValue88
  t51 := Tryz.underlying109
  a51 := Tryz.isAgg109
  z51 := Tryz.sizeOf109
  v51 := Tryz.zeroValue109
  t53 := Tryz.underlying50
  a53 := Tryz.isAgg50
  z53 := Tryz.sizeOf50
  v53 := Tryz.zeroValue50
  t131 := Tryz.underlying77
  a131 := Tryz.isAgg77
  z131 := Tryz.sizeOf77
  v131 := Tryz.zeroValue77
  t182 := Tryz.underlying103
  a182 := Tryz.isAgg103
  z182 := Tryz.sizeOf103
  v182 := Tryz.zeroValue103
  t183 := Tryz.underlying104
  a183 := Tryz.isAgg104
  z183 := Tryz.sizeOf104
  v183 := Tryz.zeroValue104
  t218 := Tryz.underlying113
  a218 := Tryz.isAgg113
  z218 := Tryz.sizeOf113
  v218 := Tryz.zeroValue113
  t222 := Tryz.underlying117
  a222 := Tryz.isAgg117
  z222 := Tryz.sizeOf117
  v222 := Tryz.zeroValue117
  t228 := Tryz.underlying124
  a228 := Tryz.isAgg124
  z228 := Tryz.sizeOf124
  v228 := Tryz.zeroValue124
  t229 := Tryz.underlying125
  a229 := Tryz.isAgg125
  z229 := Tryz.sizeOf125
  v229 := Tryz.zeroValue125 }
open Go.Sort Go.RowKit in
theorem Tryz.slices_Sort_int (blk off cap : Nat) (zs : List Int) (w : World) (hH : Holds (Value.int .i64) w blk off zs.toArray) (hblk : blk < w.heap.size) (hsz : zs.length < 4611686018427387904) :
    Calls Tryz.prog 52 #[.slice (some ⟨blk, off, none⟩) zs.length cap] w fun e w' =>
      e = .returned (.tuple #[]) ∧ ∃ n os, w' = grow (putRow (Value.int .i64) (Sort.ahead w n) blk off (zs.mergeSort fun x y => decide (x ≤ y)).toArray) os := Any.slices_Sort_int Tryz.lays189 blk off cap zs w hH hblk hsz
def Tryz.laysNm237_ren : Go.Shelf.Ren := ⟨fun | 37 => 63 | n => n, fun | 3 => 3 | 4 => 4 | n => n, fun | n => n⟩
theorem Tryz.laysNm237 : Go.Proofs.Lays2.n37 Tryz.prog Tryz.laysNm237_ren := {
  mixed := by kernel_rfl
  f37 := Tryz.func63.trans (congrArg some (by kernel_rfl))
  t3 := Tryz.underlying3
  a3 := Tryz.isAgg3
  z3 := Tryz.sizeOf3
  v3 := Tryz.zeroValue3
  t4 := Tryz.underlying4
  a4 := Tryz.isAgg4
  z4 := Tryz.sizeOf4
  v4 := Tryz.zeroValue4 }
open Go.RowKit Go.Lib in
/-- cmp.isNaN[int]: 'x != x': false. (LAID: no walk: one application.) -/
theorem Tryz.cmp_isNaN_int2 (x : Int) (w : World) :
    Calls Tryz.prog 63 #[.int .i64 x] w fun e w' => e = .returned (.bool false) ∧ w' = w := Any.cmp_isNaN_int2 Tryz.laysNm237 x w
def Tryz.laysNm232_ren : Go.Shelf.Ren := ⟨fun | 32 => 56 | n => n, fun | 3 => 3 | 4 => 4 | n => n, fun | n => n⟩
theorem Tryz.laysNm232 : Go.Proofs.Lays2.n32 Tryz.prog Tryz.laysNm232_ren := {
  mixed := by kernel_rfl
  f32 := Tryz.func56.trans (congrArg some (by kernel_rfl))
  t3 := Tryz.underlying3
  a3 := Tryz.isAgg3
  z3 := Tryz.sizeOf3
  v3 := Tryz.zeroValue3
  t4 := Tryz.underlying4
  a4 := Tryz.isAgg4
  z4 := Tryz.sizeOf4
  v4 := Tryz.zeroValue4 }
open Go.RowKit Go.Lib in
/-- slices.isNaN[int]: 'x != x': false. (LAID: no walk: one application.) -/
theorem Tryz.slices_isNaN_int2 (x : Int) (w : World) :
    Calls Tryz.prog 56 #[.int .i64 x] w fun e w' => e = .returned (.bool false) ∧ w' = w := Any.slices_isNaN_int2 Tryz.laysNm232 x w
def Tryz.laysNm231_ren : Go.Shelf.Ren := ⟨fun | 31 => 55 | 37 => 63 | n => n, fun | 3 => 3 | 4 => 4 | n => n, fun | n => n⟩
theorem Tryz.laysNm231 : Go.Proofs.Lays2.n31 Tryz.prog Tryz.laysNm231_ren := {
  mixed := by kernel_rfl
  f31 := Tryz.func55.trans (congrArg some (by kernel_rfl))
  f37 := Tryz.func63.trans (congrArg some (by kernel_rfl))
  t3 := Tryz.underlying3
  a3 := Tryz.isAgg3
  z3 := Tryz.sizeOf3
  v3 := Tryz.zeroValue3
  t4 := Tryz.underlying4
  a4 := Tryz.isAgg4
  z4 := Tryz.sizeOf4
  v4 := Tryz.zeroValue4 }
open Go.RowKit Go.Lib in
/-- cmp.Less[int]: "Less reports whether x is less than y.": 'x < y'; the world is as it was. (LAID: no walk: one application.) -/
theorem Tryz.cmp_Less_int2 (x y : Int) (w : World) :
    Calls Tryz.prog 55 #[.int .i64 x, .int .i64 y] w fun e w' => e = .returned (.bool (decide (x < y))) ∧ w' = w := Any.cmp_Less_int2 Tryz.laysNm231 x y w
def Tryz.laysNm225_ren : Go.Shelf.Ren := ⟨fun | 25 => 48 | 31 => 55 | 32 => 56 | 37 => 63 | n => n, fun | 22 => 22 | 3 => 3 | 4 => 4 | 40 => 88 | 0 => 0 | n => n, fun | n => n⟩
theorem Tryz.laysNm225 : Go.Proofs.Lays2.n25 Tryz.prog Tryz.laysNm225_ren := {
  mixed := by kernel_rfl
  f25 := Tryz.func48.trans (congrArg some (by kernel_rfl))
  f31 := Tryz.func55.trans (congrArg some (by kernel_rfl))
  f32 := Tryz.func56.trans (congrArg some (by kernel_rfl))
  f37 := Tryz.func63.trans (congrArg some (by kernel_rfl))
  t0 := Tryz.underlying0
  a0 := Tryz.isAgg0
  z0 := Tryz.sizeOf0
  v0 := Tryz.zeroValue0
  t3 := Tryz.underlying3
  a3 := Tryz.isAgg3
  z3 := Tryz.sizeOf3
  v3 := Tryz.zeroValue3
  t4 := Tryz.underlying4
  a4 := Tryz.isAgg4
  z4 := Tryz.sizeOf4
  v4 := Tryz.zeroValue4
  t22 := Tryz.underlying22
  a22 := Tryz.isAgg22
  z22 := Tryz.sizeOf22
  v22 := Tryz.zeroValue22
  t40 := Tryz.underlying88
  a40 := Tryz.isAgg88
  z40 := Tryz.sizeOf88
  v40 := Tryz.zeroValue88 }
open Go.RowKit Go.Lib in
/-- slices.BinarySearch at []int: "BinarySearch searches for target in a sorted slice and returns the earliest position where target is found, or the position where target would appear in the sort order; it also returns a bool saying whether the target is really found in the slice. The slice must be sorted in increasing order.": OF A SORTED SLICE IT RETURNS how many elements are less than the target, and whether the target is among the elements; the world is as it was but for the count of draws. 'zs': what the cells behind the slice's address hold; 'zs.take n': its elements. (Of a slice that is not sorted: no contract here.) (LAID: no walk: one application.) -/
theorem Tryz.slices_BinarySearch_int (b off n c : Nat) (zs : List Int) (x : Int) (w : World) (hz : n ≤ zs.length) (hbig : n < 4611686018427387904) (hc : ∀ j, j < zs.length → w.cell? ⟨b, off + j, none⟩ = some (.int .i64 (zs.getD j 0))) (hs : (zs.take n).Pairwise (· ≤ ·)) :
    Calls Tryz.prog 48 #[.slice (some ⟨b, off, none⟩) n c, .int .i64 x] w fun e w' => e = .returned (.tuple #[.int .i64 ((zs.take n).countP (· < x) : Nat), .bool ((zs.take n).contains x)]) ∧ ∃ q, w' = w.drewN q := Any.slices_BinarySearch_int Tryz.laysNm225 b off n c zs x w hz hbig hc hs
open Go.RowKit Go.Sort in
/-- .. and plain. (LAID: no walk: one application.) -/
theorem Tryz.slices_Sort_int_none (p : Option Addr) (cap : Nat) (w : World) :
    Calls Tryz.prog 52 #[.slice p 0 cap] w fun e w' => e = .returned (.tuple #[]) ∧ w' = w := Any.slices_Sort_int_none Tryz.lays189 p cap w
open Go.RowKit Go.Lib in
/-- slices.BinarySearch at []int of no element: position 0, not found; the world is as it was. (LAID: no walk: one application.) -/
theorem Tryz.slices_BinarySearch_int_empty (a : Option Addr) (c : Nat) (x : Int) (w : World) :
    Calls Tryz.prog 48 #[.slice a 0 c, .int .i64 x] w fun e w' => e = .returned (.tuple #[.int .i64 0, .bool false]) ∧ w' = w := Any.slices_BinarySearch_int_empty Tryz.laysNm225 a c x w
end Go.Proofs

namespace Go.Proofs
open Go.Shelf
def Tryz.sortSpot_ren : Go.Shelf.Ren := ⟨fun | 6 => 64 | 15 => 61 | 14 => 78 | 28 => 75 | 29 => 76 | 20 => 86 | 21 => 87 | 22 => 88 | 23 => 89 | 24 => 90 | 25 => 91 | 26 => 92 | 27 => 93 | 46 => 95 | 47 => 82 | 48 => 83 | 49 => 96 | 50 => 97 | 57 => 98 | n => n, fun | 22 => 91 | 24 => 82 | 25 => 99 | 3 => 3 | 39 => 88 | 0 => 0 | 53 => 109 | 55 => 50 | 4 => 4 | 46 => 104 | 45 => 103 | 50 => 77 | 5 => 5 | 9 => 9 | 66 => 113 | 70 => 117 | 76 => 124 | 77 => 125 | n => n, fun | n => n⟩
theorem Tryz.sortSpot : Go.Proofs.SlLaysF0.n6 Tryz.prog Tryz.sortSpot_ren := {
  mixed := by kernel_rfl
  f6 := ⟨Tryz.f64.name, by decide, Tryz.func64.trans (congrArg some (by kernel_rfl))⟩
  f14 := ⟨Tryz.f78.name, by decide, Tryz.func78.trans (congrArg some (by kernel_rfl))⟩
  f15 := Tryz.func61.trans (congrArg some (by kernel_rfl))
  f20 := ⟨Tryz.f86.name, by decide, Tryz.func86.trans (congrArg some (by kernel_rfl))⟩
  f21 := ⟨Tryz.f87.name, by decide, Tryz.func87.trans (congrArg some (by kernel_rfl))⟩
  f22 := ⟨Tryz.f88.name, by decide, Tryz.func88.trans (congrArg some (by kernel_rfl))⟩
  f23 := ⟨Tryz.f89.name, by decide, Tryz.func89.trans (congrArg some (by kernel_rfl))⟩
  f24 := ⟨Tryz.f90.name, by decide, Tryz.func90.trans (congrArg some (by kernel_rfl))⟩
  f25 := ⟨Tryz.f91.name, by decide, Tryz.func91.trans (congrArg some (by kernel_rfl))⟩
  f26 := ⟨Tryz.f92.name, by decide, Tryz.func92.trans (congrArg some (by kernel_rfl))⟩
  f27 := ⟨Tryz.f93.name, by decide, Tryz.func93.trans (congrArg some (by kernel_rfl))⟩
  f28 := Tryz.func75.trans (congrArg some (by kernel_rfl))
  f29 := Tryz.func76.trans (congrArg some (by kernel_rfl))
  f46 := ⟨Tryz.f95.name, by decide, Tryz.func95.trans (congrArg some (by kernel_rfl))⟩
  f47 := Tryz.func82.trans (congrArg some (by kernel_rfl))
  f48 := Tryz.func83.trans (congrArg some (by kernel_rfl))
  f49 := ⟨Tryz.f96.name, by decide, Tryz.func96.trans (congrArg some (by kernel_rfl))⟩
  f50 := ⟨Tryz.f97.name, by decide, Tryz.func97.trans (congrArg some (by kernel_rfl))⟩
  f57 := ⟨Tryz.f98.name, by decide, Tryz.func98.trans (congrArg some (by kernel_rfl))⟩
  t0 := Tryz.underlying0
  a0 := Tryz.isAgg0
  z0 := Tryz.sizeOf0
  v0 := Tryz.zeroValue0
  t3 := Tryz.underlying3
  a3 := Tryz.isAgg3
  z3 := Tryz.sizeOf3
  v3 := Tryz.zeroValue3
  t4 := Tryz.underlying4
  a4 := Tryz.isAgg4
  z4 := Tryz.sizeOf4
  v4 := Tryz.zeroValue4
  t5 := Tryz.underlying5
  a5 := Tryz.isAgg5
  z5 := Tryz.sizeOf5
  v5 := Tryz.zeroValue5
  t9 := Tryz.underlying9
  a9 := Tryz.isAgg9
  z9 := Tryz.sizeOf9
  v9 := Tryz.zeroValue9
  t22 := Tryz.underlying91
  a22 := Tryz.isAgg91
  z22 := Tryz.sizeOf91
  v22 := Tryz.zeroValue91
  t25 := Tryz.underlying99
  a25 := Tryz.isAgg99
  z25 := Tryz.sizeOf99
  v25 := Tryz.zeroValue99
  t39 := Tryz.underlying88
  a39 := Tryz.isAgg88
  z39 := Tryz.sizeOf88
  v39 := Tryz.zeroValue88
  t45 := Tryz.underlying103
  a45 := Tryz.isAgg103
  z45 := Tryz.sizeOf103
  v45 := Tryz.zeroValue103
  t46 := Tryz.underlying104
  a46 := Tryz.isAgg104
  z46 := Tryz.sizeOf104
  v46 := Tryz.zeroValue104
  t50 := Tryz.underlying77
  a50 := Tryz.isAgg77
  z50 := Tryz.sizeOf77
  v50 := Tryz.zeroValue77
  t53 := Tryz.underlying109
  a53 := Tryz.isAgg109
  z53 := Tryz.sizeOf109
  v53 := Tryz.zeroValue109
  t55 := Tryz.underlying50
  a55 := Tryz.isAgg50
  z55 := Tryz.sizeOf50
  v55 := Tryz.zeroValue50
  t66 := Tryz.underlying113
  a66 := Tryz.isAgg113
  z66 := Tryz.sizeOf113
  v66 := Tryz.zeroValue113
  t70 := Tryz.underlying117
  a70 := Tryz.isAgg117
  z70 := Tryz.sizeOf117
  v70 := Tryz.zeroValue117
  t76 := Tryz.underlying124
  a76 := Tryz.isAgg124
  z76 := Tryz.sizeOf124
  v76 := Tryz.zeroValue124
  t77 := Tryz.underlying125
  a77 := Tryz.isAgg125
  z77 := Tryz.sizeOf125
  v77 := Tryz.zeroValue125 }
end Go.Proofs

namespace Go.Proofs.YtomfgjbicpeggaaGreat

def sizeB (n : Int) : Bool := decide (1 ≤ n ∧ n ≤ 8)
def leaperB (a b : Int) : Bool := decide (0 ≤ a ∧ a ≤ b ∧ 1 ≤ b ∧ b ≤ 5)
def inB (n lo hi : Int) : Bool := decide (lo ≤ n ∧ n ≤ hi)
/-- Strictly increasing, all above lo and below hi. -/
def risesB (lo hi : Int) : List Int → Bool
  | [] => true
  | h :: t => decide (lo < h ∧ h < hi) && risesB h hi t
def goodB (W H : Int) (hs : List Int) : Bool := sizeB W && sizeB H && decide ((hs.length : Int) < W * H) && risesB (-1) (W * H) hs

theorem sizeB_iff {n : Int} : sizeB n = true ↔ 1 ≤ n ∧ n ≤ 8 := by simp [sizeB]
theorem leaperB_iff {a b : Int} : leaperB a b = true ↔ 0 ≤ a ∧ a ≤ b ∧ 1 ≤ b ∧ b ≤ 5 := by simp [leaperB]
theorem inB_iff {n lo hi : Int} : inB n lo hi = true ↔ lo ≤ n ∧ n ≤ hi := by simp [inB]
theorem inB_false {n lo hi : Int} : inB n lo hi = false ↔ n < lo ∨ hi < n := by simp [inB]; omega
theorem sizeB_false {n : Int} : sizeB n = false ↔ n < 1 ∨ 8 < n := by simp [sizeB]; omega
theorem goodB_iff {W H : Int} {hs : List Int} : goodB W H hs = true ↔ (1 ≤ W ∧ W ≤ 8) ∧ (1 ≤ H ∧ H ≤ 8) ∧ (hs.length : Int) < W * H ∧ risesB (-1) (W * H) hs = true := by
  simp [goodB, sizeB, and_assoc]

theorem risesB_mono {lo lo' hi : Int} {hs : List Int} (h : risesB lo hi hs = true) (hl : lo' ≤ lo) : risesB lo' hi hs = true := by
  cases hs with
  | nil => rfl
  | cons a t => simp [risesB] at h ⊢; exact ⟨by omega, h.2⟩
theorem risesB_mem {lo hi : Int} {hs : List Int} (h : risesB lo hi hs = true) : ∀ x ∈ hs, lo < x ∧ x < hi := by
  induction hs generalizing lo with
  | nil => intro x hx; cases hx
  | cons a t ih =>
    simp [risesB] at h
    intro x hx
    rcases List.mem_cons.1 hx with rfl | hx
    · exact h.1
    · have := ih h.2 x hx; omega
theorem risesB_pairwise {lo hi : Int} {hs : List Int} (h : risesB lo hi hs = true) : hs.Pairwise (· < ·) := by
  induction hs generalizing lo with
  | nil => exact List.Pairwise.nil
  | cons a t ih =>
    simp [risesB] at h
    exact List.Pairwise.cons (fun x hx => (risesB_mem h.2 x hx).1) (ih h.2)
theorem risesB_of {lo hi : Int} {hs : List Int} (hp : hs.Pairwise (· < ·)) (hm : ∀ x ∈ hs, lo < x ∧ x < hi) : risesB lo hi hs = true := by
  induction hs generalizing lo with
  | nil => rfl
  | cons a t ih =>
    rw [List.pairwise_cons] at hp
    simp only [risesB, Bool.and_eq_true, decide_eq_true_eq]
    exact ⟨hm a (List.mem_cons_self), ih hp.2 (fun x hx => ⟨hp.1 x hx, (hm x (List.mem_cons_of_mem _ hx)).2⟩)⟩
theorem drop_cons_of {xs : List Int} {k : Nat} {x : Int} (hx : xs[k]? = some x) : xs.drop k = x :: xs.drop (k + 1) := by
  have hl : k < xs.length := by
    rcases Nat.lt_or_ge k xs.length with h | h
    · exact h
    · rw [List.getElem?_eq_none h] at hx; cases hx
  rw [List.getElem?_eq_getElem hl] at hx
  rw [List.drop_eq_getElem_cons hl]; injection hx with hx; rw [hx]

/-- Both sizes are small: so is the number of cells. -/
theorem cells_le {W H : Int} (hW : 1 ≤ W ∧ W ≤ 8) (hH : 1 ≤ H ∧ H ≤ 8) : 1 ≤ W * H ∧ W * H ≤ 64 := by
  obtain ⟨h1, h2⟩ := hW
  obtain ⟨h3, h4⟩ := hH
  constructor
  · have := Int.mul_le_mul h1 h3 (by omega) (by omega); omega
  · have := Int.mul_le_mul h2 h4 (by omega) (by omega); omega

/-- The model's way: all in range, and each greater than the one before. -/
def inAll (lo hi : Int) (xs : List Int) : Bool := xs.all fun x => inB x lo hi
theorem inAll_iff {lo hi : Int} {xs : List Int} : inAll lo hi xs = true ↔ ∀ x ∈ xs, lo ≤ x ∧ x ≤ hi := by simp [inAll, inB]
theorem inAll_drop {lo hi x : Int} {xs : List Int} {k : Nat} (hx : xs[k]? = some x) : inAll lo hi (xs.drop k) = (inB x lo hi && inAll lo hi (xs.drop (k + 1))) := by
  rw [drop_cons_of hx]; rfl
theorem pairwise_of_steps {xs : List Int} (h : ∀ k x y, xs[k]? = some x → xs[k + 1]? = some y → x < y) : xs.Pairwise (· < ·) := by
  induction xs with
  | nil => exact List.Pairwise.nil
  | cons a t ih =>
    have ht : t.Pairwise (· < ·) := ih fun k x y hx hy => h (k + 1) x y hx hy
    cases t with
    | nil => exact List.pairwise_singleton _ _
    | cons b t =>
      have hab : a < b := h 0 a b rfl rfl
      refine List.Pairwise.cons (fun x hx => ?_) ht
      rcases List.mem_cons.1 hx with rfl | hx
      · exact hab
      · exact Int.lt_trans hab ((List.pairwise_cons.1 ht).1 x hx)
theorem steps_of_pairwise {xs : List Int} (h : xs.Pairwise (· < ·)) {k : Nat} {x y : Int} (hx : xs[k]? = some x) (hy : xs[k + 1]? = some y) : x < y := by
  obtain ⟨h1, rfl⟩ := List.getElem?_eq_some_iff.1 hx
  obtain ⟨h2, rfl⟩ := List.getElem?_eq_some_iff.1 hy
  exact (List.pairwise_iff_getElem.1 h) k (k + 1) h1 h2 (by omega)
/-- After the range, the steps decide. -/
theorem rises_in {hi : Int} {xs : List Int} (h : risesB (-1) hi xs = true) : inAll 0 (hi - 1) xs = true :=
  inAll_iff.2 fun x hx => by have := risesB_mem h x hx; omega
theorem rises_false {hi x y : Int} {xs : List Int} {k : Nat} (hx : xs[k]? = some x) (hy : xs[k + 1]? = some y) (hxy : y ≤ x) : risesB (-1) hi xs = false := by
  rw [Bool.eq_false_iff]
  intro h
  have := steps_of_pairwise (risesB_pairwise h) hx hy
  omega
theorem rises_of_in {hi : Int} {xs : List Int} (h : inAll 0 (hi - 1) xs = true) (hs : ∀ k x y, k + 1 < xs.length → xs[k]? = some x → xs[k + 1]? = some y → x < y) : risesB (-1) hi xs = true := by
  refine risesB_of (pairwise_of_steps fun k x y hx hy => hs k x y ?_ hx hy) (fun x hx => by have := inAll_iff.1 h x hx; omega)
  exact (List.getElem?_eq_some_iff.1 hy).1
theorem rises_drop {lo hi x : Int} {xs : List Int} {k : Nat} (hx : xs[k]? = some x) : risesB lo hi (xs.drop k) = (decide (lo < x ∧ x < hi) && risesB x hi (xs.drop (k + 1))) := by
  rw [drop_cons_of hx]; rfl

/-! ### Which cells are there -/
def hasB (W H : Int) (hs : List Int) (c : Int) : Bool := decide (0 ≤ c ∧ c < W * H) && !hs.contains c
theorem hasB_iff {W H c : Int} {hs : List Int} : hasB W H hs c = true ↔ (0 ≤ c ∧ c < W * H) ∧ c ∉ hs := by simp [hasB]
theorem has_step {xs : List Int} {k : Nat} {x c : Int} (hx : xs[k]? = some x) (hne : x ≠ c) : (xs.drop k).contains c = (xs.drop (k + 1)).contains c := by
  rw [drop_cons_of hx, List.contains_cons]
  have : (c == x) = false := by simpa using fun h => hne h.symm
  rw [this, Bool.false_or]
theorem has_hit {xs : List Int} {k : Nat} {c : Int} (hx : xs[k]? = some c) : (xs.drop k).contains c = true := by
  rw [drop_cons_of hx, List.contains_cons]; simp

end Go.Proofs.YtomfgjbicpeggaaGreat

namespace Go.Proofs.YtomfgjbicpeggaaGreat

def upTo (n : Nat) : List Int := (List.range n).map fun i : Nat => (i : Int)
theorem upTo_succ (n : Nat) : upTo (n + 1) = upTo n ++ [(n : Int)] := by simp [upTo, List.range_succ]
theorem upTo_mem {n : Nat} {x : Int} : x ∈ upTo n ↔ 0 ≤ x ∧ x < n := by
  simp only [upTo, List.mem_map, List.mem_range]
  constructor
  · rintro ⟨i, hi, rfl⟩; omega
  · intro h; exact ⟨x.toNat, by omega, by omega⟩
theorem upTo_pairwise (n : Nat) : (upTo n).Pairwise (· < ·) := by
  rw [upTo, List.pairwise_map]
  exact List.pairwise_lt_range.imp (fun h => by omega)
/-- The cells that are there below k, increasing. -/
def cellsTo (W H : Int) (hs : List Int) (k : Nat) : List Int := (upTo k).filter (hasB W H hs)
def cellsL (W H : Int) (hs : List Int) : List Int := cellsTo W H hs (W * H).toNat
theorem cellsTo_yes {W H : Int} {hs : List Int} {k : Nat} (h : hasB W H hs k = true) : cellsTo W H hs (k + 1) = cellsTo W H hs k ++ [(k : Int)] := by
  rw [cellsTo, upTo_succ, List.filter_append, List.filter_cons, if_pos h]; rfl
theorem cellsTo_no {W H : Int} {hs : List Int} {k : Nat} (h : hasB W H hs k = false) : cellsTo W H hs (k + 1) = cellsTo W H hs k := by
  rw [cellsTo, upTo_succ, List.filter_append, List.filter_cons, if_neg (by simp [h])]; simp [cellsTo]
theorem cellsTo_len {W H : Int} {hs : List Int} (k : Nat) : (cellsTo W H hs k).length ≤ k := by
  have := List.length_filter_le (hasB W H hs) (upTo k)
  simpa [cellsTo, upTo] using this
theorem cellsL_mem {W H x : Int} {hs : List Int} : x ∈ cellsL W H hs ↔ hasB W H hs x = true := by
  rw [cellsL, cellsTo, List.mem_filter, upTo_mem]
  constructor
  · exact fun h => h.2
  · intro h; have := hasB_iff.1 h; exact ⟨by omega, h⟩
theorem cellsL_pairwise (W H : Int) (hs : List Int) : (cellsL W H hs).Pairwise (· < ·) := (upTo_pairwise _).filter _


theorem filter_not_mem_len : ∀ (hs l : List Int), hs.Pairwise (· < ·) → l.Nodup → (∀ x ∈ hs, x ∈ l) → (l.filter fun x => !hs.contains x).length + hs.length = l.length
  | [], l, _, _, _ => by simp
  | h :: hs, l, hp, hd, hm => by
    rw [List.pairwise_cons] at hp
    have ih := filter_not_mem_len hs l hp.2 hd (fun x hx => hm x (List.mem_cons_of_mem _ hx))
    have hh : h ∉ hs := fun hx => absurd (hp.1 h hx) (by omega)
    have hl : h ∈ l.filter fun x => !hs.contains x := by
      rw [List.mem_filter]; exact ⟨hm h (List.mem_cons_self), by simpa using hh⟩
    have e : (l.filter fun x => !(h :: hs).contains x) = (l.filter fun x => !hs.contains x).filter fun x => !(x == h) := by
      rw [List.filter_filter]
      apply List.filter_congr
      intro x _
      rw [List.contains_cons, Bool.not_or]
    have hd2 : (l.filter fun x => !hs.contains x).Nodup := hd.filter _
    have e2 : ((l.filter fun x => !hs.contains x).filter fun x => !(x == h)) = (l.filter fun x => !hs.contains x).erase h := by
      rw [hd2.erase_eq_filter]; rfl
    rw [e, e2, List.length_erase_of_mem hl]
    have : 0 < (l.filter fun x => !hs.contains x).length := List.length_pos_of_mem hl
    simp only [List.length_cons]
    omega
theorem cellsL_len {W H : Int} {hs : List Int} (hg : goodB W H hs = true) : ((cellsL W H hs).length : Int) = W * H - hs.length := by
  obtain ⟨hW, hH, hlen, hri⟩ := goodB_iff.1 hg
  have hN := cells_le hW hH
  have e : cellsL W H hs = (upTo (W * H).toNat).filter fun x => !hs.contains x := by
    rw [cellsL, cellsTo]
    apply List.filter_congr
    intro x hx
    have := upTo_mem.1 hx
    simp [hasB]; omega
  have h := filter_not_mem_len hs (upTo (W * H).toNat) (risesB_pairwise hri) ((upTo_pairwise _).imp (fun h => by omega)) (fun x hx => by
    have := risesB_mem hri x hx
    exact upTo_mem.2 ⟨by omega, by omega⟩)
  have hl : (upTo (W * H).toNat).length = (W * H).toNat := by simp [upTo]
  rw [e]; omega

end Go.Proofs.YtomfgjbicpeggaaGreat

namespace Go.Proofs.YtomfgjbicpeggaaGreat
open Go.RowKit

set_option maxHeartbeats 400000 in
theorem l1In_any (n lo hi : Int) (w : World) :
    Calls Tryz.prog 44 #[.int .i64 n, .int .i64 lo, .int .i64 hi] w fun e w' => e = .returned (.bool (inB n lo hi)) ∧ w = w' := by
  by_cases h1 : lo ≤ n
  · go_enter Tryz.func44, Tryz.ntmps44
    go_wp2
    go_ret
    exact ⟨ret_bool (by simp [inB, h1]), rfl⟩
  · go_enter Tryz.func44, Tryz.ntmps44
    go_wp2
    go_ret
    exact ⟨ret_bool (by simp [inB]; omega), rfl⟩

set_option maxHeartbeats 400000 in
theorem isSize_any (n : Int) (w : World) :
    Calls Tryz.prog 47 #[.int .i64 n] w fun e w' => e = .returned (.bool (sizeB n)) ∧ w = w' := by
  by_cases h1 : 1 ≤ n
  · go_enter Tryz.func47, Tryz.ntmps47
    go_wp2
    go_ret
    exact ⟨ret_bool (by simp [sizeB, h1]), rfl⟩
  · go_enter Tryz.func47, Tryz.ntmps47
    go_wp2
    go_ret
    exact ⟨ret_bool (by simp [sizeB]; omega), rfl⟩

set_option maxHeartbeats 400000 in
theorem boSize_any (m n : Int) (w : World) :
    Calls Tryz.prog 42 #[.int .i64 m, .int .i64 n] w fun e w' => e = .returned (.bool (sizeB m && sizeB n)) ∧ w = w' := by
  by_cases h1 : inB m 1 8 = true
  · go_enter Tryz.func42, Tryz.ntmps42
    go_wp2_with (go_at_call 44; refine (l1In_any _ _ _ _).mono ?_; rintro e w1 ⟨rfl, rfl⟩)
    go_ret
    exact ⟨ret_bool (by rw [Bool.eq_iff_iff]; simp [inB, sizeB] at h1 ⊢; omega), rfl⟩
  · have h2 : inB m 1 8 = false := by simpa using h1
    clear h1
    go_enter Tryz.func42, Tryz.ntmps42
    go_wp2_with (go_at_call 44; refine (l1In_any _ _ _ _).mono ?_; rintro e w1 ⟨rfl, rfl⟩)
    go_ret
    exact ⟨ret_bool (by rw [Bool.eq_iff_iff]; simp [inB, sizeB] at h2 ⊢; omega), rfl⟩

set_option maxHeartbeats 400000 in
theorem boLeaper_any (a b : Int) (w : World) :
    Calls Tryz.prog 29 #[lpr a b] w fun e w' => e = .returned (.bool (leaperB a b)) ∧ Below w.heap.size w w' := by
  by_cases h1 : inB b 1 5 = true
  · go_enter Tryz.func29, Tryz.ntmps29
    go_wp2_with (go_at_call 44; refine (l1In_any _ _ _ _).mono ?_; rintro e w1 ⟨rfl, rfl⟩)
    go_ret
    exact ⟨ret_bool (by rw [Bool.eq_iff_iff]; simp [inB, leaperB] at h1 ⊢; omega), below_new (Below.refl _ _) _⟩
  · have h2 : inB b 1 5 = false := by simpa using h1
    clear h1
    go_enter Tryz.func29, Tryz.ntmps29
    go_wp2_with (go_at_call 44; refine (l1In_any _ _ _ _).mono ?_; rintro e w1 ⟨rfl, rfl⟩)
    go_ret
    exact ⟨ret_bool (by rw [Bool.eq_iff_iff]; simp [inB, leaperB] at h2 ⊢; omega), below_new (Below.refl _ _) _⟩

set_option maxHeartbeats 400000 in
theorem isLeaper_any (a b : Int) (w : World) :
    Calls Tryz.prog 33 #[lpr a b] w fun e w' => e = .returned (.bool (leaperB a b)) ∧ Below w.heap.size w w' := by
  by_cases h1 : 0 ≤ a
  · by_cases h2 : a ≤ b
    · by_cases h3 : 1 ≤ b
      all_goals
        go_enter Tryz.func33, Tryz.ntmps33
        go_wp2
        go_ret
        exact ⟨ret_bool (by rw [Bool.eq_iff_iff]; simp [leaperB]; omega), below_new (Below.refl _ _) _⟩
    · go_enter Tryz.func33, Tryz.ntmps33
      go_wp2
      go_ret
      exact ⟨ret_bool (by rw [Bool.eq_iff_iff]; simp [leaperB]; omega), below_new (Below.refl _ _) _⟩
  · go_enter Tryz.func33, Tryz.ntmps33
    go_wp2
    go_ret
    exact ⟨ret_bool (by rw [Bool.eq_iff_iff]; simp [leaperB]; omega), below_new (Below.refl _ _) _⟩

end Go.Proofs.YtomfgjbicpeggaaGreat

namespace Go.Proofs.YtomfgjbicpeggaaGreat
open Go.RowKit

set_option maxHeartbeats 400000 in
theorem l1All_any (A : Option Addr) (n c : Nat) (lo hi : Int) (xs : List Int) (w : World) (ha : Rd w A n xs) :
    Calls Tryz.prog 43 #[.slice A n c, .int .i64 lo, .int .i64 hi] w fun e w' => e = .returned (.bool (inAll lo hi xs)) ∧ Below w.heap.size w w' := by
  have h3 := ha.2.1
  have H1 := Lib.hid ha.1
  go_enter Tryz.func43, Tryz.ntmps43
  go_wp2
  go_loopw [11] (fun i wr => ∃ k : Nat, k ≤ n ∧ i = .int .i64 k ∧ inAll lo hi xs = inAll lo hi (xs.drop k) ∧ Below w.heap.size w wr) (fun i _ => n - (intOf i).toNat)
  case atStart => exact ⟨0, Nat.zero_le _, rfl, rfl, Below.refl _ _⟩
  case round =>
    obtain ⟨k, hk, rfl, hr, hbw⟩ := hrel
    have HR := Lib.hid hr
    clear hr
    by_cases hlt : k < n
    · obtain ⟨b1, o1, x, rfl, hl1, hx, hc1⟩ := (ha.keep hbw).at_ hlt
      have HX := Lib.hid hx
      clear hx
      by_cases hin : inB x lo hi = true
      · go_wp2_with (go_at_call 44; refine (l1In_any _ _ _ _).mono ?_; rintro e w1 ⟨rfl, rfl⟩)
        go_roundw
        case rel => exact ⟨k + 1, by omega, by go_num, by rw [HR.out, inAll_drop HX.out, hin]; rfl, hbw⟩
        case measure => simp [intOf]; omega
      · have hin' : inB x lo hi = false := by simpa using hin
        clear hin
        go_wp2_with (go_at_call 44; refine (l1In_any _ _ _ _).mono ?_; rintro e w1 ⟨rfl, rfl⟩)
        go_ret
        exact ⟨ret_bool (by rw [HR.out, inAll_drop HX.out, hin']; rfl), hbw⟩
    · go_wp2
      go_ret
      exact ⟨ret_bool (by rw [HR.out, List.drop_of_length_le (by have := H1.out; omega)]; rfl), hbw⟩

set_option maxHeartbeats 400000 in
theorem isBoard_any (W H : Int) (A : Option Addr) (n c : Nat) (xs : List Int) (w : World) (ha : Rd w A n xs) :
    Calls Tryz.prog 34 #[brd W H A n c] w fun e w' => e = .returned (.bool (goodB W H xs)) ∧ Below w.heap.size w w' := by
  have h3 := ha.2.1
  have H1 := Lib.hid ha.1
  by_cases hW : sizeB W = true
  · by_cases hH : sizeB H = true
    · have hcl := cells_le (sizeB_iff.1 hW) (sizeB_iff.1 hH)
      obtain ⟨hN1, hN2⟩ := hcl
      by_cases hlen : (n : Int) < W * H
      · go_enter Tryz.func34, Tryz.ntmps34
        go_wp2_with (go_at_call 47; refine (isSize_any _ _).mono ?_; rintro e w1 ⟨rfl, rfl⟩)
        go_loopw [30, 3] (fun i bf wr => ∃ (k : Nat) (q : Int), k ≤ n ∧ i = .int .i64 k ∧ bf = .int .i64 q ∧ risesB (-1) (W * H) xs = risesB q (W * H) (xs.drop k) ∧ Below (w.heap.size + 1) (w.alloc (.cells #[.int .i64 W, .int .i64 H, .slice A n c] 31)) wr) (fun i _ _ => n - (intOf i).toNat)
        case atStart => exact ⟨0, -1, Nat.zero_le _, rfl, rfl, rfl, Below.refl _ _⟩
        case round =>
          obtain ⟨k, q, hk, rfl, rfl, hr, hbw⟩ := hrel
          have HR := Lib.hid hr
          clear hr
          have hb0 := box_cell hbw 0; have hb1 := box_cell hbw 1; have hb2 := box_cell hbw 2
          simp only [List.getElem?_toArray, List.getElem?_cons_zero, List.getElem?_cons_succ] at hb0 hb1 hb2
          by_cases hlt : k < n
          · obtain ⟨b1, o1, x, rfl, hl1, hx, hc1⟩ := (ha.keep (box_below hbw)).at_ hlt
            have HX := Lib.hid hx
            clear hx
            by_cases hxq : x ≤ q
            · go_wp2
              go_ret
              exact ⟨ret_bool (by rw [goodB, hW, hH, HR.out, rises_drop HX.out]; simp; omega), box_below hbw⟩
            · by_cases hxh : W * H ≤ x
              · go_wp2
                go_ret
                exact ⟨ret_bool (by rw [goodB, hW, hH, HR.out, rises_drop HX.out]; simp; omega), box_below hbw⟩
              · go_wp2
                go_roundw
                case rel => exact ⟨k + 1, x, by omega, by go_num, rfl, by rw [HR.out, rises_drop HX.out]; simp; omega, hbw⟩
                case measure => simp [intOf]; omega
          · go_wp2
            go_ret
            exact ⟨ret_bool (by rw [goodB, hW, hH, HR.out, List.drop_of_length_le (by have := H1.out; omega), H1.out]; simp [risesB, hlen]), box_below hbw⟩
      · go_enter Tryz.func34, Tryz.ntmps34
        go_wp2_with (go_at_call 47; refine (isSize_any _ _).mono ?_; rintro e w1 ⟨rfl, rfl⟩)
        go_ret
        exact ⟨ret_bool (by rw [goodB, H1.out]; simp; omega), below_new (Below.refl _ _) _⟩
    · have hH' : sizeB H = false := by simpa using hH
      clear hH
      go_enter Tryz.func34, Tryz.ntmps34
      go_wp2_with (go_at_call 47; refine (isSize_any _ _).mono ?_; rintro e w1 ⟨rfl, rfl⟩)
      go_ret
      exact ⟨ret_bool (by rw [goodB, hH']; simp), below_new (Below.refl _ _) _⟩
  · have hW' : sizeB W = false := by simpa using hW
    clear hW
    go_enter Tryz.func34, Tryz.ntmps34
    go_wp2_with (go_at_call 47; refine (isSize_any _ _).mono ?_; rintro e w1 ⟨rfl, rfl⟩)
    go_ret
    exact ⟨ret_bool (by rw [goodB, hW']; simp), below_new (Below.refl _ _) _⟩

set_option maxHeartbeats 1000000 in
theorem boGood_any (W H : Int) (A : Option Addr) (n c : Nat) (xs : List Int) (w : World) (ha : Rd w A n xs) :
    Calls Tryz.prog 28 #[brd W H A n c] w fun e w' => e = .returned (.bool (goodB W H xs)) ∧ Below w.heap.size w w' := by
  have h3 := ha.2.1
  have H1 := Lib.hid ha.1
  by_cases hWH : (sizeB W && sizeB H) = true
  · have hW : sizeB W = true := by simp at hWH; exact hWH.1
    have hH : sizeB H = true := by simp at hWH; exact hWH.2
    obtain ⟨hN1, hN2⟩ := cells_le (sizeB_iff.1 hW) (sizeB_iff.1 hH)
    by_cases hlen : (n : Int) < W * H
    · by_cases hall : inAll 0 (W * H - 1) xs = true
      · go_enter Tryz.func28, Tryz.ntmps28
        go_wp2_with (first | (go_at_call 42; refine (boSize_any _ _ _).mono ?_; rintro e w1 ⟨rfl, rfl⟩) | (go_at_call 43; refine (l1All_any _ _ _ _ _ _ _ (ha.alloc _)).mono ?_; rintro e w1 ⟨rfl, hb1⟩))
        have hbs : Below (w.heap.size + 1) (w.alloc (.cells #[.int .i64 W, .int .i64 H, .slice A n c] 31)) w1 := by simpa using hb1
        have HBS := Lib.hid hbs
        clear hbs hb1
        go_loopw [3] (fun i wr => ∃ m : Nat, i = .int .i64 ((m : Int) + 1) ∧ (∀ j x y, j < m → xs[j]? = some x → xs[j + 1]? = some y → x < y) ∧ Below (w.heap.size + 1) (w.alloc (.cells #[.int .i64 W, .int .i64 H, .slice A n c] 31)) wr) (fun i _ => n - (intOf i).toNat)
        case atStart => exact ⟨0, rfl, fun j x y h => absurd h (by omega), HBS.out⟩
        case round =>
          clear HBS
          obtain ⟨m, rfl, hr, hbw⟩ := hrel
          have HR := Lib.hid hr
          clear hr
          have hb0 := box_cell hbw 0; have hb1 := box_cell hbw 1; have hb2 := box_cell hbw 2
          simp only [List.getElem?_toArray, List.getElem?_cons_zero, List.getElem?_cons_succ] at hb0 hb1 hb2
          by_cases hlt : m + 1 < n
          · obtain ⟨b1, o1, x, rfl, hl1, hx, hc1⟩ := (ha.keep (box_below hbw)).at_ (k := m) (by omega)
            obtain ⟨b2, o2, y, hA2, hl2, hy, hc2⟩ := (ha.keep (box_below hbw)).at_ (k := m + 1) hlt
            injection hA2 with hA2
            injection hA2 with e1 e2 _
            subst e1 e2
            have HX := Lib.hid hx; have HY := Lib.hid hy
            clear hx hy
            by_cases hxy : y ≤ x
            · go_wp2
              go_quiet (fail)
              go_wp2
              go_ret
              exact ⟨ret_bool (by rw [goodB, hW, hH, rises_false HX.out HY.out hxy]; simp), below_drewN (box_below hbw) _⟩
            · go_wp2
              go_quiet (fail)
              go_wp2
              go_roundw
              case rel => exact ⟨m + 1, by go_num, fun j x' y' hj h1 h2 => by
                rcases Nat.lt_or_ge j m with h | h
                · exact HR.out j x' y' h h1 h2
                · obtain rfl : j = m := by omega
                  rw [HX.out] at h1; rw [HY.out] at h2
                  injection h1 with h1; injection h2 with h2; omega, below_drewN hbw _⟩
              case measure => simp [intOf]; omega
          · go_wp2
            go_ret
            exact ⟨ret_bool (by rw [goodB, hW, hH, H1.out, rises_of_in hall (fun k x y hk hx hy => HR.out k x y (by have := H1.out; omega) hx hy)]; simp [hlen]), box_below hbw⟩
      · have hall' : inAll 0 (W * H - 1) xs = false := by simpa using hall
        clear hall
        go_enter Tryz.func28, Tryz.ntmps28
        go_wp2_with (first | (go_at_call 42; refine (boSize_any _ _ _).mono ?_; rintro e w1 ⟨rfl, rfl⟩) | (go_at_call 43; refine (l1All_any _ _ _ _ _ _ _ (ha.alloc _)).mono ?_; rintro e w1 ⟨rfl, hb1⟩))
        go_ret
        exact ⟨ret_bool (by rw [goodB, hW, hH]; cases hr : risesB (-1) (W * H) xs with | true => rw [rises_in hr] at hall'; cases hall' | false => simp), below_next (below_new (Below.refl _ _) _) hb1⟩
    · go_enter Tryz.func28, Tryz.ntmps28
      go_wp2_with (first | (go_at_call 42; refine (boSize_any _ _ _).mono ?_; rintro e w1 ⟨rfl, rfl⟩) | (go_at_call 43; refine (l1All_any _ _ _ _ _ _ _ (ha.alloc _)).mono ?_; rintro e w1 ⟨rfl, hb1⟩))
      go_ret
      exact ⟨ret_bool (by rw [goodB, H1.out]; simp; omega), below_new (Below.refl _ _) _⟩
  · have hWH' : (sizeB W && sizeB H) = false := by simpa using hWH
    clear hWH
    go_enter Tryz.func28, Tryz.ntmps28
    go_wp2_with (first | (go_at_call 42; refine (boSize_any _ _ _).mono ?_; rintro e w1 ⟨rfl, rfl⟩) | (go_at_call 43; refine (l1All_any _ _ _ _ _ _ _ (ha.alloc _)).mono ?_; rintro e w1 ⟨rfl, hb1⟩))
    go_ret
    exact ⟨ret_bool (by rw [goodB, hWH']; simp), below_new (Below.refl _ _) _⟩

end Go.Proofs.YtomfgjbicpeggaaGreat

namespace Go.Proofs.YtomfgjbicpeggaaGreat
open Go.RowKit

def posV (x : Int) : Int := if x < 0 then 0 else x
def roomV (s t : Int) : Int := posV (s - t)
theorem roomV_le {s t : Int} (h1 : 1 ≤ s ∧ s ≤ 8) (h2 : 0 ≤ t) : 0 ≤ roomV s t ∧ roomV s t ≤ 8 := by unfold roomV posV; split <;> omega
theorem mul_le8 {x y : Int} (hx : 0 ≤ x ∧ x ≤ 8) (hy : 0 ≤ y ∧ y ≤ 8) : 0 ≤ x * y ∧ x * y ≤ 64 :=
  ⟨Int.mul_nonneg hx.1 hy.1, by have := Int.mul_le_mul hx.2 hy.2 hy.1 (by omega); omega⟩
def oneV (m n a b : Int) : Int := roomV m a * roomV n b
def plainLeapsV (m n a b : Int) : Int := if sizeB m && sizeB n && leaperB a b then (if a = 0 then oneV m n a b + oneV m n b a else if a = b then 2 * oneV m n a b else 2 * (oneV m n a b + oneV m n b a)) else 0
def plainLeapsB (m n a b : Int) : Bool := sizeB m && sizeB n && leaperB a b
theorem oneV_le {m n a b : Int} (hm : 1 ≤ m ∧ m ≤ 8) (hn : 1 ≤ n ∧ n ≤ 8) (ha : 0 ≤ a) (hb : 0 ≤ b) : 0 ≤ oneV m n a b ∧ oneV m n a b ≤ 64 := mul_le8 (roomV_le hm ha) (roomV_le hn hb)

theorem quiet_drew {P : Program} {f : FuncId} {args : Array Value} {w : World} {a n : Nat} {v : Value} (h : Calls P f args (w.drewN (a + n)) fun e w' => e = .returned v ∧ w.drewN (a + n) = w') :
    Calls P f args (w.drewN (a + n)) fun e w' => e = .returned v ∧ ∃ m, w' = w.drewN (a + m) := h.mono fun _ _ ⟨he, hw⟩ => ⟨he, n, hw.symm⟩
theorem quiet_same {P : Program} {f : FuncId} {args : Array Value} {w : World} {v : Value} (h : Calls P f args w fun e w' => e = .returned v ∧ w = w') : Calls P f args w fun e w' => e = .returned v ∧ w' = w :=
  h.mono fun _ _ ⟨he, hw⟩ => ⟨he, hw.symm⟩

set_option maxHeartbeats 400000 in
theorem l1Most_any (x : Int) (w : World) :
    Calls Tryz.prog 77 #[.int .i64 0, .int .i64 x] w fun e w' => e = .returned (.int .i64 (posV x)) ∧ w = w' := by
  by_cases h : x < 0
  · go_enter Tryz.func77, Tryz.ntmps77
    go_wp2
    go_ret
    exact ⟨ret_int (by unfold posV; split <;> omega), rfl⟩
  · go_enter Tryz.func77, Tryz.ntmps77
    go_wp2
    go_ret
    exact ⟨ret_int (by unfold posV; split <;> omega), rfl⟩

theorem plain_eq {m n a b : Int} (hs : (sizeB m && sizeB n) = true) (hl : leaperB a b = true) :
    plainLeapsV m n a b = (if 0 < a ∧ a < b then (oneV m n a b + oneV m n b a) * 2 else oneV m n a b + oneV m n b a) := by
  have l1 := leaperB_iff.1 hl
  rw [plainLeapsV, hs, hl]
  simp only [Bool.and_self, if_true]
  by_cases ha : a = 0
  · subst ha; simp
  · by_cases hab : a = b
    · subst hab; simp [ha]; omega
    · rw [if_neg ha, if_neg hab, if_pos (by omega)]; omega

/-! ### Plain boards -/
def plainB (m n : Int) : Bool := sizeB m && sizeB n
def PlainBoard_w (m n : Int) : Int := if plainB m n then m else 0
def PlainBoard_h (m n : Int) : Int := if plainB m n then n else 0

end Go.Proofs.YtomfgjbicpeggaaGreat

namespace Go.Proofs.YtomfgjbicpeggaaGreat
open Go.RowKit

/-- A world with draws and blocks more. -/
def Grown (W w : World) : Prop := ∃ q os, w = Go.Sort.grow (W.drewN q) os
theorem Grown.refl (W : World) : Grown W W := ⟨0, #[], by simp; rfl⟩
theorem Grown.alloc {W w : World} (h : Grown W w) (o : Obj) : Grown W (w.alloc o) := by
  obtain ⟨q, os, rfl⟩ := h
  exact ⟨q, os ++ #[o], by rw [Go.Sort.alloc_eq_grow, Go.Sort.grow_grow]⟩
theorem Grown.drewN {W w : World} (h : Grown W w) (k : Nat) : Grown W (w.drewN k) := by
  obtain ⟨q, os, rfl⟩ := h
  exact ⟨q + k, os, by rw [← World.drewN_drewN]; rfl⟩
theorem Grown.drew1 {W w : World} (h : Grown W w) : Grown W w.drew := h.drewN 1

def cmpP (p q : Int × Int) : Int := if Lib.compareInt p.1 q.1 = 0 then Lib.compareInt p.2 q.2 else Lib.compareInt p.1 q.1

set_option maxHeartbeats 400000 in
theorem or2_any (g : Nat) (u v : Int) (w : World) (h0 : w.cell? ⟨g, 0, none⟩ = some (.int .i64 u)) (h1 : w.cell? ⟨g, 1, none⟩ = some (.int .i64 v)) :
    Calls Tryz.prog 79 #[.slice (some ⟨g, 0, none⟩) 2 2] w fun e w' => e = .returned (.int .i64 (if u = 0 then v else u)) ∧ w = w' := by
  by_cases hu : u = 0
  · subst hu
    by_cases hv : v = 0
    · subst hv
      go_enter Tryz.func79, Tryz.ntmps79
      go_wp2
      go_loop [8] (fun i => ∃ k : Nat, k ≤ 2 ∧ i = .int .i64 k) (fun i => 2 - (intOf i).toNat)
      case atStart => exact ⟨0, by omega, rfl⟩
      case round =>
        obtain ⟨k, hk, rfl⟩ := hrel
        have hk2 : k = 0 ∨ k = 1 ∨ k = 2 := by omega
        rcases hk2 with rfl | rfl | rfl
        · go_wp2
          go_round
          case rel => exact ⟨1, by omega, rfl⟩
          case measure => simp [intOf]
        · go_wp2
          go_round
          case rel => exact ⟨2, by omega, rfl⟩
          case measure => simp [intOf]
        · go_wp2
          go_ret
          exact ⟨rfl, rfl⟩
    · have hv' : (v == 0) = false := by simpa using hv
      have hv2 : (v != 0) = true := by simpa using hv
      go_enter Tryz.func79, Tryz.ntmps79
      go_wp2
      go_loop [8] (fun i => ∃ k : Nat, k ≤ 1 ∧ i = .int .i64 k) (fun i => 2 - (intOf i).toNat)
      case atStart => exact ⟨0, by omega, rfl⟩
      case round =>
        obtain ⟨k, hk, rfl⟩ := hrel
        have hk2 : k = 0 ∨ k = 1 := by omega
        rcases hk2 with rfl | rfl
        · go_wp2
          go_round
          case rel => exact ⟨1, by omega, rfl⟩
          case measure => simp [intOf]
        · go_wp2
          go_ret
          exact ⟨ret_int (by first | rfl | simp), rfl⟩
  · have hu' : (u == 0) = false := by simpa using hu
    have hu2 : (u != 0) = true := by simpa using hu
    go_enter Tryz.func79, Tryz.ntmps79
    go_wp2
    go_loop [8] (fun i => i = .int .i64 ((0 : Nat) : Int)) (fun i => 2 - (intOf i).toNat)
    case atStart => rfl
    case round =>
      obtain rfl := hrel
      go_wp2
      go_ret
      exact ⟨ret_int (by first | rfl | simp [hu]), rfl⟩

def cI (x y : Int) : Int := Lib.compareInt x y
def orI (u v : Int) : Int := if u = 0 then v else u
theorem compI_any (x y : Int) (w : World) : Calls Tryz.prog 80 #[.int .i64 x, .int .i64 y] w fun e w' => e = .returned (.int .i64 (cI x y)) ∧ w = w' :=
  (Tryz.cmp_Compare_int x y w).mono fun _ _ ⟨he, hw⟩ => ⟨he, hw.symm⟩
theorem orI_any (g : Nat) (u v : Int) (w : World) (h0 : w.cell? ⟨g, 0, none⟩ = some (.int .i64 u)) (h1 : w.cell? ⟨g, 1, none⟩ = some (.int .i64 v)) :
    Calls Tryz.prog 79 #[.slice (some ⟨g, 0, none⟩) 2 2] w fun e w' => e = .returned (.int .i64 (orI u v)) ∧ w = w' := or2_any g u v w h0 h1

set_option maxRecDepth 100000 in
set_option maxHeartbeats 1000000 in
theorem compare_any (p q : Int × Int) (W : World) :
    Calls Tryz.prog 65 #[.agg #[.int .i64 p.1, .int .i64 p.2], .agg #[.int .i64 q.1, .int .i64 q.2]] W fun e w' => e = .returned (.int .i64 (cmpP p q)) ∧ Grown W w' := by
  obtain ⟨x, y⟩ := p
  obtain ⟨x2, y2⟩ := q
  have G : Hid (Grown W ((W.alloc (.cells #[.int .i64 x, .int .i64 y] 82)).alloc (.cells #[.int .i64 x2, .int .i64 y2] 82))) := Lib.hid (((Grown.refl W).alloc _).alloc _)
  rw [show cmpP (x, y) (x2, y2) = orI (cI x x2) (cI y y2) from rfl]
  obtain ⟨W2, hW2⟩ : ∃ W2, W2 = (W.alloc (.cells #[.int .i64 x, .int .i64 y] 82)).alloc (.cells #[.int .i64 x2, .int .i64 y2] 82) := ⟨_, rfl⟩
  have a0 : W2.cell? ⟨W.heap.size, 0, none⟩ = some (.int .i64 x) := by rw [hW2]; go_simp
  have a1 : W2.cell? ⟨W.heap.size, 1, none⟩ = some (.int .i64 y) := by rw [hW2]; go_simp
  have b0 : W2.cell? ⟨W.heap.size + 1, 0, none⟩ = some (.int .i64 x2) := by rw [hW2]; go_simp
  have b1 : W2.cell? ⟨W.heap.size + 1, 1, none⟩ = some (.int .i64 y2) := by rw [hW2]; go_simp
  rw [← hW2] at G
  go_enter Tryz.func65, Tryz.ntmps65
  go_wp2
  rw [← hW2]
  have hsz : (W.heap.size + 2) ≤ W2.heap.size := by rw [hW2]; simp
  clear hW2
  have ga : W.heap.size < W2.heap.size := by omega
  have gb : W.heap.size + 1 < W2.heap.size := by omega
  go_region_held3 (fun w' => w'.cell? ⟨W.heap.size, 0, none⟩ = some (.int .i64 x) ∧ w'.cell? ⟨W.heap.size, 1, none⟩ = some (.int .i64 y) ∧ w'.cell? ⟨W.heap.size + 1, 0, none⟩ = some (.int .i64 x2) ∧ w'.cell? ⟨W.heap.size + 1, 1, none⟩ = some (.int .i64 y2)) (first | exact ⟨a0, a1, b0, b1⟩ | (refine ⟨?_, ?_, ?_, ?_⟩ <;> (first | assumption | go_simp)))
    (first
      | (go_at_call 80; (with_reducible refine (compI_any _ _ _).mono ?_); rintro e wv ⟨rfl, rfl⟩)
      | (go_at_call 79; (with_reducible refine (orI_any W2.heap.size (cI x x2) (cI y y2) _ ?_ ?_).mono ?_); (go_simp); (go_simp); rintro e wv ⟨rfl, rfl⟩))
  all_goals go_wp2
  all_goals go_ret
  all_goals (refine ⟨rfl, ?_⟩)
  all_goals (repeat (first | exact G.out | refine Grown.alloc ?_ _ | refine Grown.drewN ?_ _ | refine Grown.drew1 ?_))

end Go.Proofs.YtomfgjbicpeggaaGreat

namespace Go.Proofs.YtomfgjbicpeggaaGreat
open Go.RowKit

theorem pair_at {E : TypeId} {w : World} {lo g n c : Nat} {xs : List (Int × Int)} (h : OwnP E w lo (some ⟨g, 0, none⟩) n c xs) {i : Nat} {p : Int × Int} (hx : xs[i]? = some p) :
    w.cell? ⟨g, i * 2, none⟩ = some (.int .i64 p.1) ∧ w.cell? ⟨g, i * 2 + 1, none⟩ = some (.int .i64 p.2) :=
  ⟨OwnK.cell (j := 0) encP_len h hx rfl, OwnK.cell (j := 1) encP_len h hx rfl⟩
theorem arr_at {d : Array (Int × Int)} {i : Nat} (h : i < d.size) : d.toList[i]? = some d[i]! := by
  rw [Array.getElem?_toList, Array.getElem?_eq_getElem h, getElem!_pos d i h]

theorem eq_spot (x y a b : Int) (w : World) : Sem.run Tryz.prog (binOp .eql 82 (.agg #[.int .i64 x, .int .i64 y]) (.agg #[.int .i64 a, .int .i64 b])) w = .ok (.bool (x == a && y == b)) w := by
  have u3 := Tryz.underlying3
  have a3 := Tryz.isAgg3
  have z3 := Tryz.sizeOf3
  have hS : Tryz.prog.underlying 82 = some (.struct (Tryz.prog.fieldsOf 82)) := by kernel_rfl
  have hp : Tryz.prog.stoodInHeld 82 = false := by kernel_rfl
  rw [run_eql_struct, show (10000 : Nat) = 9999 + 1 from rfl, run_equalIn_agg w 9999 82 _ _ hS hp]
  simp only [Program.fieldsOf, Tryz.underlying82]
  go_simp
  by_cases h1 : x = a <;> by_cases h2 : y = b <;> simp [h1, h2]
theorem neq_spot (x y a b : Int) (w : World) : Sem.run Tryz.prog (binOp .neq 82 (.agg #[.int .i64 x, .int .i64 y]) (.agg #[.int .i64 a, .int .i64 b])) w = .ok (.bool (!(x == a && y == b))) w := by
  have u3 := Tryz.underlying3
  have a3 := Tryz.isAgg3
  have z3 := Tryz.sizeOf3
  have hS : Tryz.prog.underlying 82 = some (.struct (Tryz.prog.fieldsOf 82)) := by kernel_rfl
  have hp : Tryz.prog.stoodInHeld 82 = false := by kernel_rfl
  rw [run_neq_struct, show (10000 : Nat) = 9999 + 1 from rfl, run_equalIn_agg w 9999 82 _ _ hS hp]
  simp only [Program.fieldsOf, Tryz.underlying82]
  go_simp
  by_cases h1 : x = a <;> by_cases h2 : y = b <;> simp [h1, h2]
theorem guard_spot (op : BinOp) (u v : Operand) (xs ys : Array Value) (w : World) : Sem.run Tryz.prog (eqGuard op 82 u v (.agg xs) (.agg ys)) w = .ok () w := run_eqGuard_agg w op _ u v xs ys (by kernel_rfl)

set_option maxRecDepth 100000 in
set_option maxHeartbeats 1000000 in
theorem compact_any (lo g c N : Nat) (d : Array (Int × Int)) (w : World) (hown : OwnP 82 w lo (some ⟨g, 0, none⟩) N c d.toList) (hN : d.size = N) (h2 : 2 ≤ N) (hsz : N ≤ 1000) (hc : N ≤ c) :
    Calls Tryz.prog 66 #[.slice (some ⟨g, 0, none⟩) N c] w fun e w' => ∃ n', e = .returned (.slice (some ⟨g, 0, none⟩) n' c) ∧ OwnP 82 w' lo (some ⟨g, 0, none⟩) n' c (Lib.compactUpTo d d.size) ∧ w.grownBy w' (some g) := by
  have HN := Lib.hid hN
  have HO := Lib.hid hown
  clear hN hown
  go_enter Tryz.func66, Tryz.ntmps66
  go_wp2
  go_loopw [3] (fun s3 wr => ∃ m : Nat, m + 1 ≤ N ∧ s3 = .int .i64 ((m : Int) + 1) ∧ OwnP 82 wr lo (some ⟨g, 0, none⟩) N c d.toList ∧ w.grownBy wr (some g) ∧ (∀ j, j < m + 1 → Lib.keeps d j = true)) (fun s3 _ => N - (intOf s3).toNat)
  case atStart => exact ⟨0, by omega, rfl, HO.out, grown_refl _ _, Lib.keeps_lt_one d⟩
  case round =>
    obtain ⟨m, hm, rfl, hown, hg, hall⟩ := hrel
    have HA := Lib.hid hall; have HG := Lib.hid hg
    clear hall hg HO
    by_cases hlt : m + 1 < N
    · obtain ⟨x0, x1⟩ := pair_at hown (arr_at (d := d) (i := m + 1) (by have := HN.out; omega))
      obtain ⟨y0, y1⟩ := pair_at hown (arr_at (d := d) (i := m) (by have := HN.out; omega))
      have HO := Lib.hid hown
      clear hown
      obtain ⟨⟨xa, xb⟩, hx⟩ : ∃ x, d[m + 1]! = x := ⟨_, rfl⟩
      obtain ⟨⟨ya, yb⟩, hy⟩ : ∃ x, d[m]! = x := ⟨_, rfl⟩
      rw [hx] at x0 x1; rw [hy] at y0 y1
      simp only at x0 x1 y0 y1
      have HX := Lib.hid hx; have HY := Lib.hid hy
      clear hx hy
      have hi1 : (m : Int) + 1 < (N : Int) := by omega
      have hi0 : (0 : Int) ≤ (m : Int) + 1 := by omega
      have hgd := fun (w' : World) (u v : Operand) => guard_spot .eql u v #[.int .i64 xa, .int .i64 xb] #[.int .i64 ya, .int .i64 yb] w'
      cases hdp : (xa == ya && xb == yb) with
      | true =>
        have he := fun w' : World => hdp ▸ eq_spot xa xb ya yb w'
        have HK : Hid (Lib.keeps d (m + 1) = false) := Lib.hid (Lib.keeps_neg (by omega) (by rw [HX.out, Nat.add_sub_cancel, HY.out]; simp at hdp; rw [hdp.1, hdp.2]))
        clear hdp
        go_wp2
        go_region
        go_wp2
        clear he hgd x0 x1 y0 y1
        go_loopw [3, 5] (fun s3 s5 wx => ∃ (kk k2 : Nat) (dk : Array (Int × Int)), s3 = .int .i64 kk ∧ s5 = .int .i64 ((k2 : Int) + 1) ∧ m + 1 + (k2 + 1) ≤ N ∧ OwnP 82 wx lo (some ⟨g, 0, none⟩) N c dk.toList ∧ w.grownBy wx (some g) ∧ Lib.CompInv d (m + 1 + (k2 + 1)) kk dk) (fun _ s5 _ => N - (intOf s5).toNat)
        case atStart => exact ⟨m + 1, 0, d, by go_num, rfl, by omega, HO.out.drew1, grown_drewN HG.out 1, Lib.CompInv.start HA.out HK.out⟩
        case round =>
          obtain ⟨kk, k2, dk, rfl, rfl, hle, hown, hg, hI⟩ := hrel
          have hkk := hI.lt
          have HDS := Lib.hid hI.size
          clear HO
          by_cases hlt2 : m + 1 + (k2 + 1) < N
          · have HI := Lib.hid hI; have HG2 := Lib.hid hg
            obtain ⟨u0, u1⟩ := pair_at hown (arr_at (d := dk) (i := m + 1 + (k2 + 1)) (by have := HN.out; have := HDS.out; omega))
            obtain ⟨v0, v1⟩ := pair_at hown (arr_at (d := dk) (i := m + 1 + k2) (by have := HN.out; have := HDS.out; omega))
            obtain ⟨t0, t1⟩ := pair_at hown (arr_at (d := dk) (i := kk) (by have := HN.out; have := HDS.out; omega))
            have f0 := hown.frozen (kk * 2); have f1 := hown.frozen (kk * 2 + 1)
            rw [hI.high _ (by omega), show (m + 1 + (k2 + 1)) * 2 = (m + 1) * 2 + (k2 + 1) * 2 by omega] at u0 u1
            rw [hI.high _ (by omega), show (m + 1 + k2) * 2 = (m + 1) * 2 + k2 * 2 by omega] at v0 v1
            have HO := Lib.hid hown
            clear hown hI hg
            obtain ⟨⟨ua, ub⟩, hu⟩ : ∃ x, d[m + 1 + (k2 + 1)]! = x := ⟨_, rfl⟩
            obtain ⟨⟨va, vb⟩, hv⟩ : ∃ x, d[m + 1 + k2]! = x := ⟨_, rfl⟩
            obtain ⟨⟨ta, tb⟩, ht⟩ : ∃ x, dk[kk]! = x := ⟨_, rfl⟩
            rw [hu] at u0 u1; rw [hv] at v0 v1; rw [ht] at t0 t1
            simp only at u0 u1 v0 v1 t0 t1
            have HU := Lib.hid hu; have HV := Lib.hid hv
            clear hu hv ht
            have hj0 : (0 : Int) ≤ (k2 : Int) + 1 := by omega
            have hj1 : (k2 : Int) + 1 < ((N - (m + 1) : Nat) : Int) := by omega
            have hk1 : (kk : Int) < (N : Int) := by omega
            have hgd2 := fun (w' : World) (u v : Operand) => guard_spot .neq u v #[.int .i64 ua, .int .i64 ub] #[.int .i64 va, .int .i64 vb] w'
            cases hdp2 : (ua == va && ub == vb) with
            | true =>
              have he2 : ∀ w' : World, _ := fun w' => hdp2 ▸ neq_spot ua ub va vb w'
              have HK2 : Hid (Lib.keeps d (m + 1 + (k2 + 1)) = false) := Lib.hid (Lib.keeps_neg (by omega) (by rw [HU.out, show m + 1 + (k2 + 1) - 1 = m + 1 + k2 by omega, HV.out]; simp at hdp2; rw [hdp2.1, hdp2.2]))
              clear hdp2
              go_wp2
              go_region
              go_wp2
              go_roundw
              case rel => exact ⟨kk, k2 + 1, dk, rfl, by go_num, by omega, HO.out.drew1, grown_drewN HG2.out 1, HI.out.skip HK2.out⟩
              case measure => simp [intOf]; omega
            | false =>
              have he2 : ∀ w' : World, _ := fun w' => hdp2 ▸ neq_spot ua ub va vb w'
              have HK2 : Hid (Lib.keeps d (m + 1 + (k2 + 1)) = true) := Lib.hid (Lib.keeps_pos (by rw [HU.out, show m + 1 + (k2 + 1) - 1 = m + 1 + k2 by omega, HV.out]; intro h; injection h with h1 h2; rw [h1, h2] at hdp2; simp at hdp2))
              clear hdp2
              go_wp2
              go_region
              go_wp2
              go_roundw
              case rel =>
                have hs := HO.out.stored (i := kk) (by omega) (ua, ub)
                have hk := HI.out.keep (by have := HN.out; omega) HK2.out
                rw [HU.out] at hk
                exact ⟨kk + 1, k2 + 1, dk.setIfInBounds kk (ua, ub), by go_num, by go_num, by omega, by rw [Array.toList_setIfInBounds]; exact hs.1.drew1, grown_drewN (grown_next HG2.out hs.2) 1, hk⟩
              case measure => simp [intOf]; omega
          · have hend : m + 1 + (k2 + 1) = N := by omega
            have hnlt : ¬ (k2 : Int) + 1 < ((N - (m + 1) : Nat) : Int) := by omega
            have hz : ∀ w', (zeroValue 82).run Tryz.prog w' = .ok (.agg #[.int .i64 0, .int .i64 0]) w' := fun _ => by kernel_rfl
            have hcl : ∀ ty, (Builtin.clear_ #[91] ty #[.slice (some ⟨g, kk * 2, none⟩) (N - kk) (c - kk)]).run Tryz.prog wr = .ok (.tuple #[]) (wr.setCells g (kk * 2) (List.replicate ((N - kk) * 2) (.int .i64 0))) := fun ty =>
              run_clear_pairs wr _ _ ty Tryz.underlying91 hz g (kk * 2) (N - kk) (c - kk) (by omega)
                (fun j hj => by
                  have hi : kk + j / 2 < dk.size := by have := HN.out; have := HDS.out; omega
                  obtain ⟨p0, p1⟩ := pair_at hown (arr_at hi)
                  have : j % 2 = 0 ∨ j % 2 = 1 := by omega
                  rcases this with e | e
                  · rw [show kk * 2 + j = (kk + j / 2) * 2 by omega, p0]; rfl
                  · rw [show kk * 2 + j = (kk + j / 2) * 2 + 1 by omega, p1]; rfl)
                (fun j hj => hown.frozen _)
            have HI := Lib.hid hI; have HG2 := Lib.hid hg; have HO := Lib.hid hown
            clear hI hg hown hz
            go_wp2
            go_ret
            have hI := HI.out
            rw [hend] at hI
            have hcut := HO.out.cut encP_len (m := kk) (by omega)
            have hcb := OwnK.cells_behind (List.replicate ((N - kk) * 2) (.int .i64 0)) (kk * 2) encP_len hcut (Nat.le_refl _)
            have e : dk.toList.take kk = Lib.compactUpTo d d.size := by
              apply List.ext_getElem?
              intro j
              rw [HN.out]
              by_cases hj : j < kk
              · rw [List.getElem?_take_of_lt hj, hI.low j hj, arr_at (by have := HN.out; have := HDS.out; omega)]
              · rw [List.getElem?_eq_none (by rw [List.length_take]; omega), List.getElem?_eq_none (by rw [hI.len]; omega)]
            exact ⟨kk, rfl, by rw [← e]; exact hcb.1, grown_next HG2.out hcb.2⟩
      | false =>
        have he := fun w' : World => hdp ▸ eq_spot xa xb ya yb w'
        have HK : Hid (Lib.keeps d (m + 1) = true) := Lib.hid (Lib.keeps_pos (by rw [HX.out, Nat.add_sub_cancel, HY.out]; intro h; injection h with h1 h2; rw [h1, h2] at hdp; simp at hdp))
        clear hdp
        go_wp2
        go_region
        go_wp2
        go_roundw
        case rel => exact ⟨m + 1, by omega, by go_num, HO.out.drew1, grown_drewN HG.out 1, fun j hj => by
          by_cases e : j = m + 1
          · subst e; exact HK.out
          · exact HA.out j (by omega)⟩
        case measure => simp [intOf]; omega
    · go_wp2
      go_ret
      exact ⟨N, rfl, by rw [HN.out, Lib.compactUpTo_all d N (fun j hj => HA.out j (by omega)), ← HN.out, Lib.range_map_get, HN.out]; exact hown, HG.out⟩

end Go.Proofs.YtomfgjbicpeggaaGreat
