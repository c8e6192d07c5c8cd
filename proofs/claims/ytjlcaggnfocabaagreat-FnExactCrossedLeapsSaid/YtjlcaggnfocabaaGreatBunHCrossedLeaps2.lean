/-
  DERIVED: THE SHELF's CONTRACTS AT THIS DUMP, IN PLAIN WORDS (tools/lay-plain.mjs out of 'TryzShelf.lean', which tools/lay-shelf.mjs wrote): THE SAME DECLARATIONS UNDER THE SAME NAMES: 'import', 'namespace', 'open', 'def', 'theorem' AND NOTHING ELSE: no command of the shelf's: FOR A HAND-IN. Each laying: the table of numbers ('.._ren') and one theorem, a field a fact of the dump's own or the kernel's comparison; each contract: ONE APPLICATION.
  Contracts: which cells are there.
  Contracts: the cells that are there, in order.
  Contracts: cells in order, in the program; CellsOf, CountCells, HasCell, PlainBoard.
  Contracts: spots, turned and mirrored cells.
  Contracts: MirrorCell; TurnCell and MirrorCell in the model.
  Contracts: leaps on plain boards, by the sizes alone; plain boards.
  Contracts: whether a leaper leaps from one cell to another one.
  Plain functions and facts: crossings of lines between spots; how many pairs cross.
  Plain functions and facts: inside a ring, its area, turns of a path.
-/
import Derived.Shelf.Small.Bits
import Derived.Shelf.Small.Wraps
import Derived.Shelf.Strconv.Itoa0
import Derived.Shelf.Sort.Plain
import Derived.Ground.Names2Prog
import Derived.Shelf.Slices.SearchI
import Derived.Shelf.Slices.In.SortNone
import Derived.Shelf.Slices.Empties
import Derived.Test.YtjlcaggnfocabaaGreatProg
import Derived.Test.YtjlcaggnfocabaaGreatBunHCrossedLeaps1
import Derived.Deep.RegionHeld3
import Derived.Deep.RegionWith
import Derived.Deep.DeepCutAuto
namespace Go.Proofs
open Go.Shelf
def Tryz.lays128_ren : Go.Shelf.Ren := ⟨fun | 128 => 97 | n => n, fun | 51 => 109 | 3 => 3 | 4 => 4 | 46 => 95 | 5 => 5 | 9 => 9 | n => n, fun | n => n⟩
theorem Tryz.lays128 : Go.Proofs.Lays.n128 Tryz.prog Tryz.lays128_ren := {
  mixed := by kernel_rfl
  f128 := Tryz.func97.trans (congrArg some (by kernel_rfl))
  t3 := Tryz.underlying3
  a3 := Tryz.isAgg3
  z3 := Tryz.sizeOf3
  v3 := Tryz.zeroValue3
  t4 := Tryz.underlying4
  a4 := Tryz.isAgg4
  z4 := Tryz.sizeOf4
  v4 := Tryz.zeroValue4
  t5 := Tryz.underlying5
  a5 := Tryz.isAgg5
  z5 := Tryz.sizeOf5
  v5 := Tryz.zeroValue5
  t9 := Tryz.underlying9
  a9 := Tryz.isAgg9
  z9 := Tryz.sizeOf9
  v9 := Tryz.zeroValue9
  t46 := Tryz.underlying95
  a46 := Tryz.isAgg95
  z46 := Tryz.sizeOf95
  v46 := Tryz.zeroValue95
  t51 := Tryz.underlying109
  a51 := Tryz.isAgg109
  z51 := Tryz.sizeOf109
  v51 := Tryz.zeroValue109 }
/-- bits.Len32: "Len32 returns the minimum number of bits required to represent x; the result is 0 for x == 0.": IT RETURNS 'Lib.bitLen x'; the world is as it was. ('h0', 'h1': x is a uint32.) (LAID: no walk: one application.) -/
theorem Tryz.bits_Len32 (x : Int) (w : World) (h0 : 0 ≤ x) (h1 : x ≤ 4294967295) :
    Calls Tryz.prog 97 #[.int .u32 x] w fun e w' => e = .returned (.int .i64 (Lib.bitLen x.toNat)) ∧ w' = w := Any.bits_Len32 Tryz.lays128 x w h0 h1
def Tryz.lays125_ren : Go.Shelf.Ren := ⟨fun | 125 => 79 | 128 => 97 | 129 => 98 | n => n, fun | 46 => 95 | 3 => 3 | 51 => 109 | 53 => 111 | 4 => 4 | 5 => 5 | 9 => 9 | n => n, fun | n => n⟩
theorem Tryz.lays125 : Go.Proofs.Lays.n125 Tryz.prog Tryz.lays125_ren := {
  mixed := by kernel_rfl
  f125 := Tryz.func79.trans (congrArg some (by kernel_rfl))
  f128 := Tryz.func97.trans (congrArg some (by kernel_rfl))
  f129 := Tryz.func98.trans (congrArg some (by kernel_rfl))
  t3 := Tryz.underlying3
  a3 := Tryz.isAgg3
  z3 := Tryz.sizeOf3
  v3 := Tryz.zeroValue3
  t4 := Tryz.underlying4
  a4 := Tryz.isAgg4
  z4 := Tryz.sizeOf4
  v4 := Tryz.zeroValue4
  t5 := Tryz.underlying5
  a5 := Tryz.isAgg5
  z5 := Tryz.sizeOf5
  v5 := Tryz.zeroValue5
  t9 := Tryz.underlying9
  a9 := Tryz.isAgg9
  z9 := Tryz.sizeOf9
  v9 := Tryz.zeroValue9
  t46 := Tryz.underlying95
  a46 := Tryz.isAgg95
  z46 := Tryz.sizeOf95
  v46 := Tryz.zeroValue95
  t51 := Tryz.underlying109
  a51 := Tryz.isAgg109
  z51 := Tryz.sizeOf109
  v51 := Tryz.zeroValue109
  t53 := Tryz.underlying111
  a53 := Tryz.isAgg111
  z53 := Tryz.sizeOf111
  v53 := Tryz.zeroValue111 }
/-- bits.Len: "Len returns the minimum number of bits required to represent x; the result is 0 for x == 0.": IT RETURNS 'Lib.bitLen x'; the world is as it was. (A uint has 64 bits in the model.) ITS CALLEE bits.Len64 IS MET BY ITS OWN CONTRACT OFF THE SHELF (lay that first). (LAID: no walk: one application.) -/
theorem Tryz.bits_Len (x : Int) (w : World) (h0 : 0 ≤ x) (h1 : x ≤ 18446744073709551615) :
    Calls Tryz.prog 79 #[.int .u64 x] w fun e w' => e = .returned (.int .i64 (Lib.bitLen x.toNat)) ∧ w' = w := Any.bits_Len Tryz.lays125 x w h0 h1
def Tryz.lays215_ren : Go.Shelf.Ren := ⟨fun | 215 => 100 | n => n, fun | 3 => 3 | 4 => 4 | n => n, fun | n => n⟩
theorem Tryz.lays215 : Go.Proofs.Lays.n215 Tryz.prog Tryz.lays215_ren := {
  mixed := by kernel_rfl
  f215 := Tryz.func100.trans (congrArg some (by kernel_rfl))
  t3 := Tryz.underlying3
  a3 := Tryz.isAgg3
  z3 := Tryz.sizeOf3
  v3 := Tryz.zeroValue3
  t4 := Tryz.underlying4
  a4 := Tryz.isAgg4
  z4 := Tryz.sizeOf4
  v4 := Tryz.zeroValue4 }
open Go.RowKit in
/-- cmp.isNaN at int: 'x != x': false. (LAID: no walk: one application.) -/
theorem Tryz.cmp_isNaN_int (x : Int) (w : World) :
    Calls Tryz.prog 100 #[.int .i64 x] w fun e w' => e = .returned (.bool false) ∧ w' = w := Any.cmp_isNaN_int Tryz.lays215 x w
def Tryz.lays122_ren : Go.Shelf.Ren := ⟨fun | 122 => 103 | 215 => 100 | n => n, fun | 3 => 3 | 4 => 4 | n => n, fun | n => n⟩
theorem Tryz.lays122 : Go.Proofs.Lays.n122 Tryz.prog Tryz.lays122_ren := {
  mixed := by kernel_rfl
  f122 := Tryz.func103.trans (congrArg some (by kernel_rfl))
  f215 := Tryz.func100.trans (congrArg some (by kernel_rfl))
  t3 := Tryz.underlying3
  a3 := Tryz.isAgg3
  z3 := Tryz.sizeOf3
  v3 := Tryz.zeroValue3
  t4 := Tryz.underlying4
  a4 := Tryz.isAgg4
  z4 := Tryz.sizeOf4
  v4 := Tryz.zeroValue4 }
open Go.RowKit in
/-- cmp.Compare at int: "Compare returns -1 if x is less than y, 0 if x equals y, +1 if x is greater than y.": IT RETURNS 'Lib.compareInt x y'; the world is as it was. (LAID: no walk: one application.) -/
theorem Tryz.cmp_Compare_int (x y : Int) (w : World) :
    Calls Tryz.prog 103 #[.int .i64 x, .int .i64 y] w fun e w' => e = .returned (.int .i64 (Lib.compareInt x y)) ∧ w' = w := Any.cmp_Compare_int Tryz.lays122 x y w
def Tryz.lays129_ren : Go.Shelf.Ren := ⟨fun | 129 => 98 | n => n, fun | 53 => 111 | 3 => 3 | 4 => 4 | 46 => 95 | 5 => 5 | 9 => 9 | n => n, fun | n => n⟩
theorem Tryz.lays129 : Go.Proofs.Lays.n129 Tryz.prog Tryz.lays129_ren := {
  mixed := by kernel_rfl
  f129 := Tryz.func98.trans (congrArg some (by kernel_rfl))
  t3 := Tryz.underlying3
  a3 := Tryz.isAgg3
  z3 := Tryz.sizeOf3
  v3 := Tryz.zeroValue3
  t4 := Tryz.underlying4
  a4 := Tryz.isAgg4
  z4 := Tryz.sizeOf4
  v4 := Tryz.zeroValue4
  t5 := Tryz.underlying5
  a5 := Tryz.isAgg5
  z5 := Tryz.sizeOf5
  v5 := Tryz.zeroValue5
  t9 := Tryz.underlying9
  a9 := Tryz.isAgg9
  z9 := Tryz.sizeOf9
  v9 := Tryz.zeroValue9
  t46 := Tryz.underlying95
  a46 := Tryz.isAgg95
  z46 := Tryz.sizeOf95
  v46 := Tryz.zeroValue95
  t53 := Tryz.underlying111
  a53 := Tryz.isAgg111
  z53 := Tryz.sizeOf111
  v53 := Tryz.zeroValue111 }
/-- bits.Len64: "Len64 returns the minimum number of bits required to represent x; the result is 0 for x == 0.": IT RETURNS 'Lib.bitLen x'; the world is as it was. ('h0', 'h1': x is a uint64.) (LAID: no walk: one application.) -/
theorem Tryz.bits_Len64 (x : Int) (w : World) (h0 : 0 ≤ x) (h1 : x ≤ 18446744073709551615) :
    Calls Tryz.prog 98 #[.int .u64 x] w fun e w' => e = .returned (.int .i64 (Lib.bitLen x.toNat)) ∧ w' = w := Any.bits_Len64 Tryz.lays129 x w h0 h1
def Tryz.lays189_ren : Go.Shelf.Ren := ⟨fun | 189 => 64 | 125 => 79 | 257 => 78 | 128 => 97 | 129 => 98 | 294 => 89 | 295 => 90 | 296 => 91 | 297 => 92 | 298 => 93 | 299 => 94 | 216 => 84 | 300 => 95 | 301 => 96 | 328 => 104 | 329 => 105 | 330 => 106 | 331 => 107 | 332 => 108 | 215 => 100 | 343 => 117 | n => n, fun | 28 => 22 | 3 => 3 | 46 => 95 | 0 => 0 | 51 => 109 | 53 => 111 | 4 => 4 | 183 => 104 | 182 => 103 | 131 => 40 | 5 => 5 | 9 => 9 | 218 => 115 | 222 => 119 | 228 => 126 | 229 => 127 | n => n, fun | n => n⟩
theorem Tryz.lays189 : Go.Proofs.Lays.n189 Tryz.prog Tryz.lays189_ren := {
  mixed := by kernel_rfl
  f125 := Tryz.func79.trans (congrArg some (by kernel_rfl))
  f128 := Tryz.func97.trans (congrArg some (by kernel_rfl))
  f129 := Tryz.func98.trans (congrArg some (by kernel_rfl))
  f189 := Tryz.func64.trans (congrArg some (by kernel_rfl))
  f215 := Tryz.func100.trans (congrArg some (by kernel_rfl))
  f216 := Tryz.func84.trans (congrArg some (by kernel_rfl))
  f257 := Tryz.func78.trans (congrArg some (by kernel_rfl))
  f294 := Tryz.func89.trans (congrArg some (by kernel_rfl))
  f295 := Tryz.func90.trans (congrArg some (by kernel_rfl))
  f296 := Tryz.func91.trans (congrArg some (by kernel_rfl))
  f297 := Tryz.func92.trans (congrArg some (by kernel_rfl))
  f298 := Tryz.func93.trans (congrArg some (by kernel_rfl))
  f299 := Tryz.func94.trans (congrArg some (by kernel_rfl))
  f300 := Tryz.func95.trans (congrArg some (by kernel_rfl))
  f301 := Tryz.func96.trans (congrArg some (by kernel_rfl))
  f328 := Tryz.func104.trans (congrArg some (by kernel_rfl))
  f329 := Tryz.func105.trans (congrArg some (by kernel_rfl))
  f330 := Tryz.func106.trans (congrArg some (by kernel_rfl))
  f331 := Tryz.func107.trans (congrArg some (by kernel_rfl))
  f332 := Tryz.func108.trans (congrArg some (by kernel_rfl))
  f343 := Tryz.func117.trans (congrArg some (by kernel_rfl))
  t0 := Tryz.underlying0
  a0 := Tryz.isAgg0
  z0 := Tryz.sizeOf0
  v0 := Tryz.zeroValue0
  t3 := Tryz.underlying3
  a3 := Tryz.isAgg3
  z3 := Tryz.sizeOf3
  v3 := Tryz.zeroValue3
  t4 := Tryz.underlying4
  a4 := Tryz.isAgg4
  z4 := Tryz.sizeOf4
  v4 := Tryz.zeroValue4
  t5 := Tryz.underlying5
  a5 := Tryz.isAgg5
  z5 := Tryz.sizeOf5
  v5 := Tryz.zeroValue5
  t9 := Tryz.underlying9
  a9 := Tryz.isAgg9
  z9 := Tryz.sizeOf9
  v9 := Tryz.zeroValue9
  t28 := Tryz.underlying22
  a28 := Tryz.isAgg22
  z28 := Tryz.sizeOf22
  v28 := Tryz.zeroValue22
  t46 := Tryz.underlying95
  a46 := Tryz.isAgg95
  z46 := Tryz.sizeOf95
  v46 := Tryz.zeroValue95
  t51 := Tryz.underlying109
  a51 := Tryz.isAgg109
  z51 := Tryz.sizeOf109
  v51 := Tryz.zeroValue109
  t53 := Tryz.underlying111
  a53 := Tryz.isAgg111
  z53 := Tryz.sizeOf111
  v53 := Tryz.zeroValue111
  t131 := Tryz.underlying40
  a131 := Tryz.isAgg40
  z131 := Tryz.sizeOf40
  v131 := Tryz.zeroValue40
  t182 := Tryz.underlying103
  a182 := Tryz.isAgg103
  z182 := Tryz.sizeOf103
  v182 := Tryz.zeroValue103
  t183 := Tryz.underlying104
  a183 := Tryz.isAgg104
  z183 := Tryz.sizeOf104
  v183 := Tryz.zeroValue104
  t218 := Tryz.underlying115
  a218 := Tryz.isAgg115
  z218 := Tryz.sizeOf115
  v218 := Tryz.zeroValue115
  t222 := Tryz.underlying119
  a222 := Tryz.isAgg119
  z222 := Tryz.sizeOf119
  v222 := Tryz.zeroValue119
  t228 := Tryz.underlying126
  a228 := Tryz.isAgg126
  z228 := Tryz.sizeOf126
  v228 := Tryz.zeroValue126
  t229 := Tryz.underlying127
  a229 := Tryz.isAgg127
  z229 := Tryz.sizeOf127
  v229 := Tryz.zeroValue127 }
open Go.Sort Go.RowKit in
theorem Tryz.slices_Sort_int (blk off cap : Nat) (zs : List Int) (w : World) (hH : Holds (Value.int .i64) w blk off zs.toArray) (hblk : blk < w.heap.size) (hsz : zs.length < 4611686018427387904) :
    Calls Tryz.prog 64 #[.slice (some ⟨blk, off, none⟩) zs.length cap] w fun e w' =>
      e = .returned (.tuple #[]) ∧ ∃ n os, w' = grow (putRow (Value.int .i64) (Sort.ahead w n) blk off (zs.mergeSort fun x y => decide (x ≤ y)).toArray) os := Any.slices_Sort_int Tryz.lays189 blk off cap zs w hH hblk hsz
def Tryz.laysNm237_ren : Go.Shelf.Ren := ⟨fun | 37 => 100 | n => n, fun | 3 => 3 | 4 => 4 | n => n, fun | n => n⟩
theorem Tryz.laysNm237 : Go.Proofs.Lays2.n37 Tryz.prog Tryz.laysNm237_ren := {
  mixed := by kernel_rfl
  f37 := Tryz.func100.trans (congrArg some (by kernel_rfl))
  t3 := Tryz.underlying3
  a3 := Tryz.isAgg3
  z3 := Tryz.sizeOf3
  v3 := Tryz.zeroValue3
  t4 := Tryz.underlying4
  a4 := Tryz.isAgg4
  z4 := Tryz.sizeOf4
  v4 := Tryz.zeroValue4 }
open Go.RowKit Go.Lib in
/-- cmp.isNaN[int]: 'x != x': false. (LAID: no walk: one application.) -/
theorem Tryz.cmp_isNaN_int2 (x : Int) (w : World) :
    Calls Tryz.prog 100 #[.int .i64 x] w fun e w' => e = .returned (.bool false) ∧ w' = w := Any.cmp_isNaN_int2 Tryz.laysNm237 x w
def Tryz.laysNm232_ren : Go.Shelf.Ren := ⟨fun | 32 => 85 | n => n, fun | 3 => 3 | 4 => 4 | n => n, fun | n => n⟩
theorem Tryz.laysNm232 : Go.Proofs.Lays2.n32 Tryz.prog Tryz.laysNm232_ren := {
  mixed := by kernel_rfl
  f32 := Tryz.func85.trans (congrArg some (by kernel_rfl))
  t3 := Tryz.underlying3
  a3 := Tryz.isAgg3
  z3 := Tryz.sizeOf3
  v3 := Tryz.zeroValue3
  t4 := Tryz.underlying4
  a4 := Tryz.isAgg4
  z4 := Tryz.sizeOf4
  v4 := Tryz.zeroValue4 }
open Go.RowKit Go.Lib in
/-- slices.isNaN[int]: 'x != x': false. (LAID: no walk: one application.) -/
theorem Tryz.slices_isNaN_int2 (x : Int) (w : World) :
    Calls Tryz.prog 85 #[.int .i64 x] w fun e w' => e = .returned (.bool false) ∧ w' = w := Any.slices_isNaN_int2 Tryz.laysNm232 x w
def Tryz.laysNm231_ren : Go.Shelf.Ren := ⟨fun | 31 => 84 | 37 => 100 | n => n, fun | 3 => 3 | 4 => 4 | n => n, fun | n => n⟩
theorem Tryz.laysNm231 : Go.Proofs.Lays2.n31 Tryz.prog Tryz.laysNm231_ren := {
  mixed := by kernel_rfl
  f31 := Tryz.func84.trans (congrArg some (by kernel_rfl))
  f37 := Tryz.func100.trans (congrArg some (by kernel_rfl))
  t3 := Tryz.underlying3
  a3 := Tryz.isAgg3
  z3 := Tryz.sizeOf3
  v3 := Tryz.zeroValue3
  t4 := Tryz.underlying4
  a4 := Tryz.isAgg4
  z4 := Tryz.sizeOf4
  v4 := Tryz.zeroValue4 }
open Go.RowKit Go.Lib in
/-- cmp.Less[int]: "Less reports whether x is less than y.": 'x < y'; the world is as it was. (LAID: no walk: one application.) -/
theorem Tryz.cmp_Less_int2 (x y : Int) (w : World) :
    Calls Tryz.prog 84 #[.int .i64 x, .int .i64 y] w fun e w' => e = .returned (.bool (decide (x < y))) ∧ w' = w := Any.cmp_Less_int2 Tryz.laysNm231 x y w
def Tryz.laysNm225_ren : Go.Shelf.Ren := ⟨fun | 25 => 74 | 31 => 84 | 32 => 85 | 37 => 100 | n => n, fun | 22 => 22 | 3 => 3 | 4 => 4 | 40 => 95 | 0 => 0 | n => n, fun | n => n⟩
theorem Tryz.laysNm225 : Go.Proofs.Lays2.n25 Tryz.prog Tryz.laysNm225_ren := {
  mixed := by kernel_rfl
  f25 := Tryz.func74.trans (congrArg some (by kernel_rfl))
  f31 := Tryz.func84.trans (congrArg some (by kernel_rfl))
  f32 := Tryz.func85.trans (congrArg some (by kernel_rfl))
  f37 := Tryz.func100.trans (congrArg some (by kernel_rfl))
  t0 := Tryz.underlying0
  a0 := Tryz.isAgg0
  z0 := Tryz.sizeOf0
  v0 := Tryz.zeroValue0
  t3 := Tryz.underlying3
  a3 := Tryz.isAgg3
  z3 := Tryz.sizeOf3
  v3 := Tryz.zeroValue3
  t4 := Tryz.underlying4
  a4 := Tryz.isAgg4
  z4 := Tryz.sizeOf4
  v4 := Tryz.zeroValue4
  t22 := Tryz.underlying22
  a22 := Tryz.isAgg22
  z22 := Tryz.sizeOf22
  v22 := Tryz.zeroValue22
  t40 := Tryz.underlying95
  a40 := Tryz.isAgg95
  z40 := Tryz.sizeOf95
  v40 := Tryz.zeroValue95 }
open Go.RowKit Go.Lib in
/-- slices.BinarySearch at []int: "BinarySearch searches for target in a sorted slice and returns the earliest position where target is found, or the position where target would appear in the sort order; it also returns a bool saying whether the target is really found in the slice. The slice must be sorted in increasing order.": OF A SORTED SLICE IT RETURNS how many elements are less than the target, and whether the target is among the elements; the world is as it was but for the count of draws. 'zs': what the cells behind the slice's address hold; 'zs.take n': its elements. (Of a slice that is not sorted: no contract here.) (LAID: no walk: one application.) -/
theorem Tryz.slices_BinarySearch_int (b off n c : Nat) (zs : List Int) (x : Int) (w : World) (hz : n ≤ zs.length) (hbig : n < 4611686018427387904) (hc : ∀ j, j < zs.length → w.cell? ⟨b, off + j, none⟩ = some (.int .i64 (zs.getD j 0))) (hs : (zs.take n).Pairwise (· ≤ ·)) :
    Calls Tryz.prog 74 #[.slice (some ⟨b, off, none⟩) n c, .int .i64 x] w fun e w' => e = .returned (.tuple #[.int .i64 ((zs.take n).countP (· < x) : Nat), .bool ((zs.take n).contains x)]) ∧ ∃ q, w' = w.drewN q := Any.slices_BinarySearch_int Tryz.laysNm225 b off n c zs x w hz hbig hc hs
open Go.RowKit Go.Sort in
/-- .. and plain. (LAID: no walk: one application.) -/
theorem Tryz.slices_Sort_int_none (p : Option Addr) (cap : Nat) (w : World) :
    Calls Tryz.prog 64 #[.slice p 0 cap] w fun e w' => e = .returned (.tuple #[]) ∧ w' = w := Any.slices_Sort_int_none Tryz.lays189 p cap w
open Go.RowKit Go.Lib in
/-- slices.BinarySearch at []int of no element: position 0, not found; the world is as it was. (LAID: no walk: one application.) -/
theorem Tryz.slices_BinarySearch_int_empty (a : Option Addr) (c : Nat) (x : Int) (w : World) :
    Calls Tryz.prog 74 #[.slice a 0 c, .int .i64 x] w fun e w' => e = .returned (.tuple #[.int .i64 0, .bool false]) ∧ w' = w := Any.slices_BinarySearch_int_empty Tryz.laysNm225 a c x w
end Go.Proofs

namespace Go.Proofs.YtjlcaggnfocabaaGreat
open Go.RowKit

set_option maxHeartbeats 400000 in
theorem l1Has_any (A : Option Addr) (n c : Nat) (q : Int) (xs : List Int) (w : World) (ha : Rd w A n xs) :
    Calls Tryz.prog 49 #[.slice A n c, .int .i64 q] w fun e w' => e = .returned (.bool (xs.contains q)) ∧ Below w.heap.size w w' := by
  have h3 := ha.2.1
  have H1 := Lib.hid ha.1
  go_enter Tryz.func49, Tryz.ntmps49
  go_wp2
  go_loopw [9] (fun i wr => ∃ k : Nat, k ≤ n ∧ i = .int .i64 k ∧ xs.contains q = (xs.drop k).contains q ∧ Below w.heap.size w wr) (fun i _ => n - (intOf i).toNat)
  case atStart => exact ⟨0, Nat.zero_le _, rfl, rfl, Below.refl _ _⟩
  case round =>
    obtain ⟨k, hk, rfl, hr, hbw⟩ := hrel
    have HR := Lib.hid hr
    clear hr
    by_cases hlt : k < n
    · obtain ⟨b1, o1, x, rfl, hl1, hx, hc1⟩ := (ha.keep hbw).at_ hlt
      have HX := Lib.hid hx
      clear hx
      by_cases hin : x = q
      · subst hin
        go_wp2
        go_ret
        exact ⟨ret_bool (by rw [HR.out, has_hit HX.out]), hbw⟩
      · have hne : (x == q) = false := by simpa using hin
        go_wp2
        go_roundw
        case rel => exact ⟨k + 1, by omega, by go_num, by rw [HR.out, has_step HX.out hin], hbw⟩
        case measure => simp [intOf]; omega
    · go_wp2
      go_ret
      exact ⟨ret_bool (by rw [HR.out, List.drop_of_length_le (by have := H1.out; omega)]; rfl), hbw⟩

/-- slices.BinarySearch of a sorted list: whether the target is among the elements. -/
theorem search_any (A : Option Addr) (n c : Nat) (q : Int) (xs : List Int) (w : World) (ha : Rd w A n xs) (hn : n < 4611686018427387904) (hs : xs.Pairwise (· < ·)) :
    Calls Tryz.prog 74 #[.slice A n c, .int .i64 q] w fun e w' => ∃ p : Nat, e = .returned (.tuple #[.int .i64 p, .bool (xs.contains q)]) ∧ Below w.heap.size w w' := by
  by_cases h0 : n = 0
  · subst h0
    obtain rfl : xs = [] := List.eq_nil_of_length_eq_zero ha.1
    exact (Tryz.slices_BinarySearch_int_empty A c q w).mono fun e w' ⟨he, hw⟩ => ⟨0, he, by rw [hw]; exact Below.refl _ _⟩
  · obtain ⟨b, off, x, rfl, _, _, _⟩ := ha.at_ (k := 0) (by omega)
    have hl := ha.1
    refine (Tryz.slices_BinarySearch_int b off n c xs q w (by omega) hn (fun j hj => ?_) ?_).mono fun e w' ⟨he, m, hw⟩ => ⟨(xs.take n).countP (· < q), by rw [he, List.take_of_length_le (by omega)], by rw [hw]; exact below_drewN (Below.refl _ _) _⟩
    · obtain ⟨b', off', y, hA, _, hy, hc⟩ := ha.at_ (k := j) (by omega)
      injection hA with hA
      injection hA with e1 e2 _
      subst e1 e2
      rw [hc, List.getD_eq_getElem?_getD, hy]; rfl
    · exact (hs.imp (fun h => Int.le_of_lt h)).sublist (List.take_sublist _ _)

set_option maxHeartbeats 400000 in
theorem boHas_any (W H : Int) (A : Option Addr) (n c : Nat) (q : Int) (xs : List Int) (w : World) (ha : Rd w A n xs) (hN : 1 ≤ W * H ∧ W * H ≤ 64) :
    Calls Tryz.prog 58 #[brd W H A n c, .int .i64 q] w fun e w' => e = .returned (.bool (hasB W H xs q)) ∧ Below w.heap.size w w' := by
  obtain ⟨hN1, hN2⟩ := hN
  by_cases hin : inB q 0 (W * H - 1) = true
  · go_enter Tryz.func58, Tryz.ntmps58
    go_wp2_with (first | (go_at_call 57; refine (l1In_any _ _ _ _).mono ?_; rintro e w1 ⟨rfl, rfl⟩) | (go_at_call 49; refine (l1Has_any _ _ _ _ _ _ (ha.alloc _)).mono ?_; rintro e w1 ⟨rfl, hb1⟩))
    go_ret
    exact ⟨ret_bool (by rw [Bool.eq_iff_iff, hasB_iff]; have := inB_iff.1 hin; simp; omega), below_next (below_new (Below.refl _ _) _) hb1⟩
  · have hin' : inB q 0 (W * H - 1) = false := by simpa using hin
    clear hin
    go_enter Tryz.func58, Tryz.ntmps58
    go_wp2_with (first | (go_at_call 57; refine (l1In_any _ _ _ _).mono ?_; rintro e w1 ⟨rfl, rfl⟩))
    go_ret
    exact ⟨ret_bool (by symm; rw [Bool.eq_false_iff]; intro h; have := hasB_iff.1 h; have := inB_false.1 hin'; omega), below_new (Below.refl _ _) _⟩

set_option maxHeartbeats 400000 in
theorem isThere_any (W H : Int) (A : Option Addr) (n c : Nat) (q : Int) (xs : List Int) (w : World) (ha : Rd w A n xs) (hg : goodB W H xs = true) :
    Calls Tryz.prog 61 #[brd W H A n c, .int .i64 q] w fun e w' => e = .returned (.bool (hasB W H xs q)) ∧ Below w.heap.size w w' := by
  obtain ⟨hW, hH, hlen, hri⟩ := goodB_iff.1 hg
  have HG := Lib.hid hri
  obtain ⟨hN1, hN2⟩ := cells_le hW hH
  have hn : n < 4611686018427387904 := by have := ha.1; omega
  clear hri hg hlen hW hH
  by_cases hq0 : q < 0
  · go_enter Tryz.func61, Tryz.ntmps61
    go_wp2
    go_ret
    exact ⟨ret_bool (by symm; rw [Bool.eq_false_iff]; intro h; have := hasB_iff.1 h; omega), below_new (Below.refl _ _) _⟩
  · by_cases hq1 : W * H ≤ q
    · go_enter Tryz.func61, Tryz.ntmps61
      go_wp2
      go_ret
      exact ⟨ret_bool (by symm; rw [Bool.eq_false_iff]; intro h; have := hasB_iff.1 h; omega), below_new (Below.refl _ _) _⟩
    · go_enter Tryz.func61, Tryz.ntmps61
      go_wp2_with fail
      refine (search_any A n c q xs _ (ha.alloc _) hn (risesB_pairwise HG.out)).mono ?_
      rintro e w1 ⟨p, rfl, hb1⟩
      go_wp2
      go_ret
      exact ⟨ret_bool (by rw [Bool.eq_iff_iff, hasB_iff]; simp; omega), below_next (below_new (Below.refl _ _) _) hb1⟩

end Go.Proofs.YtjlcaggnfocabaaGreat

namespace Go.Proofs.YtjlcaggnfocabaaGreat
open Go.RowKit

set_option maxHeartbeats 800000 in
theorem boCells_any (W H : Int) (A : Option Addr) (n c : Nat) (xs : List Int) (w : World) (ha : Rd w A n xs) (hN : 1 ≤ W * H ∧ W * H ≤ 64) :
    Calls Tryz.prog 38 #[brd W H A n c] w fun e w' => ∃ A' n' c', e = .returned (.slice A' n' c') ∧ OwnI 3 w' w.heap.size A' n' c' (cellsL W H xs) ∧ Below w.heap.size w w' := by
  have hN' := hN
  obtain ⟨hN1, hN2⟩ := hN
  obtain ⟨i0, hi, hz0, hz1, hz2⟩ := info_parts infoI
  have HI := Lib.hid hi; have HZ0 := Lib.hid hz0; have HZ1 := Lib.hid hz1; have HZ2 := Lib.hid hz2
  clear hi hz0 hz1 hz2
  go_enter Tryz.func38, Tryz.ntmps38
  go_wp2
  go_loopw [3, 4] (fun v i wr => ∃ (k n' c' : Nat) (A' : Option Addr), (k : Int) ≤ W * H ∧ i = .int .i64 k ∧ v = .slice A' n' c' ∧ OwnI 3 wr (w.heap.size + 1) A' n' c' (cellsTo W H xs k) ∧ Below (w.heap.size + 1) (w.alloc (.cells #[.int .i64 W, .int .i64 H, .slice A n c] 31)) wr) (fun _ i _ => (W * H).toNat - (intOf i).toNat)
  case atStart => exact ⟨0, 0, 0, none, by omega, rfl, rfl, OwnI.none_ _ _ _, Below.refl _ _⟩
  case round =>
    obtain ⟨k, n', c', A', hk, rfl, rfl, hown, hbw⟩ := hrel
    have hb0 := box_cell hbw 0; have hb1 := box_cell hbw 1; have hb2 := box_cell hbw 2
    simp only [List.getElem?_toArray, List.getElem?_cons_zero, List.getElem?_cons_succ] at hb0 hb1 hb2
    have hsz := box_size hbw
    by_cases hlt : (k : Int) < W * H
    · by_cases hh : hasB W H xs k = true
      · have hn' : n' ≤ 64 := by have := cellsTo_len (W := W) (H := H) (hs := xs) k; have := hown.len; omega
        have HO := Lib.hid hown; have HB := Lib.hid hbw
        clear hown hbw
        go_wp2_with fail
        refine (boHas_any _ _ _ _ _ _ _ _ (ha.keep (box_below HB.out)) hN').mono ?_
        rintro e w1 ⟨rfl, hbh⟩
        have HO1 := Lib.hid (HO.out.keep hbh)
        have HB1 := Lib.hid (HB.out.trans (hbh.mono (by omega)))
        clear hbh HO HB
        go_wp2_with (at_builtin; refine wpList_app1 rfl (.tmp 17) (.tmp 19) 22 3 rfl i0 Tryz.underlying22 HI.out HZ0.out HZ1.out HZ2.out (w.heap.size + 1) A' n' c' (cellsTo W H xs k) (k : Int) rfl HO1.out rfl (by omega) (by have := box_size HB1.out; omega) ?_; intro A2 c2 w2 hown2 hb2')
        have HO2 := Lib.hid hown2; have HB2 := Lib.hid (HB1.out.trans hb2')
        clear hown2 hb2'
        go_wp2
        go_roundw
        case rel => exact ⟨k + 1, n' + 1, c2, A2, by omega, by go_num, rfl, by rw [cellsTo_yes hh]; exact HO2.out, HB2.out⟩
        case measure => simp [intOf]; omega
      · have hh' : hasB W H xs k = false := by simpa using hh
        clear hh
        have HO := Lib.hid hown; have HB := Lib.hid hbw
        clear hown hbw
        go_wp2_with fail
        refine (boHas_any _ _ _ _ _ _ _ _ (ha.keep (box_below HB.out)) hN').mono ?_
        rintro e w1 ⟨rfl, hbh⟩
        have HO1 := Lib.hid (HO.out.keep hbh)
        have HB1 := Lib.hid (HB.out.trans (hbh.mono (by omega)))
        clear hbh HO HB
        go_wp2
        go_roundw
        case rel => exact ⟨k + 1, n', c', A', by omega, by go_num, rfl, by rw [cellsTo_no hh']; exact HO1.out, HB1.out⟩
        case measure => simp [intOf]; omega
    · go_wp2
      go_ret
      have e : (W * H).toNat = k := by omega
      exact ⟨A', n', c', rfl, by rw [cellsL, e]; exact hown.lower (by omega), box_below hbw⟩

end Go.Proofs.YtjlcaggnfocabaaGreat

namespace Go.Proofs.YtjlcaggnfocabaaGreat
open Go.RowKit

set_option maxHeartbeats 800000 in
theorem cellsThere_any (W H : Int) (A : Option Addr) (n c : Nat) (xs : List Int) (w : World) (ha : Rd w A n xs) (hg : goodB W H xs = true) :
    Calls Tryz.prog 45 #[brd W H A n c] w fun e w' => ∃ A' n' c', e = .returned (.slice A' n' c') ∧ OwnI 3 w' w.heap.size A' n' c' (cellsL W H xs) ∧ Below w.heap.size w w' := by
  obtain ⟨hW, hH, _, _⟩ := goodB_iff.1 hg
  obtain ⟨hN1, hN2⟩ := cells_le hW hH
  have HG := Lib.hid hg
  clear hg hW hH
  obtain ⟨i0, hi, hz0, hz1, hz2⟩ := info_parts infoI
  have HI := Lib.hid hi; have HZ0 := Lib.hid hz0; have HZ1 := Lib.hid hz1; have HZ2 := Lib.hid hz2
  clear hi hz0 hz1 hz2
  go_enter Tryz.func45, Tryz.ntmps45
  go_wp2
  go_loopw [3, 10] (fun v i wr => ∃ (k n' c' : Nat) (A' : Option Addr), (k : Int) ≤ W * H ∧ i = .int .i64 k ∧ v = .slice A' n' c' ∧ OwnI 3 wr (w.heap.size + 1) A' n' c' (cellsTo W H xs k) ∧ Below (w.heap.size + 1) (w.alloc (.cells #[.int .i64 W, .int .i64 H, .slice A n c] 31)) wr) (fun _ i _ => (W * H).toNat - (intOf i).toNat)
  case atStart => exact ⟨0, 0, 0, none, by omega, rfl, rfl, OwnI.none_ _ _ _, Below.refl _ _⟩
  case round =>
    obtain ⟨k, n', c', A', hk, rfl, rfl, hown, hbw⟩ := hrel
    have hb0 := box_cell hbw 0; have hb1 := box_cell hbw 1; have hb2 := box_cell hbw 2
    simp only [List.getElem?_toArray, List.getElem?_cons_zero, List.getElem?_cons_succ] at hb0 hb1 hb2
    have hsz := box_size hbw
    by_cases hlt : (k : Int) < W * H
    · by_cases hh : hasB W H xs k = true
      · have hn' : n' ≤ 64 := by have := cellsTo_len (W := W) (H := H) (hs := xs) k; have := hown.len; omega
        have HO := Lib.hid hown; have HB := Lib.hid hbw
        clear hown hbw
        go_wp2_with fail
        refine (isThere_any _ _ _ _ _ _ _ _ (ha.keep (box_below HB.out)) HG.out).mono ?_
        rintro e w1 ⟨rfl, hbh⟩
        have HO1 := Lib.hid (HO.out.keep hbh)
        have HB1 := Lib.hid (HB.out.trans (hbh.mono (by omega)))
        clear hbh HO HB
        go_wp2_with (at_builtin; refine wpList_app1 rfl (.tmp 16) (.tmp 18) 22 3 rfl i0 Tryz.underlying22 HI.out HZ0.out HZ1.out HZ2.out (w.heap.size + 1) A' n' c' (cellsTo W H xs k) (k : Int) rfl HO1.out rfl (by omega) (by have := box_size HB1.out; omega) ?_; intro A2 c2 w2 hown2 hb2')
        have HO2 := Lib.hid hown2; have HB2 := Lib.hid (HB1.out.trans hb2')
        clear hown2 hb2'
        go_wp2
        go_roundw
        case rel => exact ⟨k + 1, n' + 1, c2, A2, by omega, by go_num, rfl, by rw [cellsTo_yes hh]; exact HO2.out, HB2.out⟩
        case measure => simp [intOf]; omega
      · have hh' : hasB W H xs k = false := by simpa using hh
        clear hh
        have HO := Lib.hid hown; have HB := Lib.hid hbw
        clear hown hbw
        go_wp2_with fail
        refine (isThere_any _ _ _ _ _ _ _ _ (ha.keep (box_below HB.out)) HG.out).mono ?_
        rintro e w1 ⟨rfl, hbh⟩
        have HO1 := Lib.hid (HO.out.keep hbh)
        have HB1 := Lib.hid (HB.out.trans (hbh.mono (by omega)))
        clear hbh HO HB
        go_wp2
        go_roundw
        case rel => exact ⟨k + 1, n', c', A', by omega, by go_num, rfl, by rw [cellsTo_no hh']; exact HO1.out, HB1.out⟩
        case measure => simp [intOf]; omega
    · go_wp2
      go_ret
      have e : (W * H).toNat = k := by omega
      exact ⟨A', n', c', rfl, by rw [cellsL, e]; exact hown.lower (by omega), box_below hbw⟩


def cellsV (W H : Int) (xs : List Int) : List Int := if goodB W H xs then cellsL W H xs else []
def countV (W H : Int) (xs : List Int) : Int := if goodB W H xs then (cellsL W H xs).length else 0
def hasV (W H : Int) (xs : List Int) (q : Int) : Bool := goodB W H xs && hasB W H xs q

end Go.Proofs.YtjlcaggnfocabaaGreat

namespace Go.Proofs.YtjlcaggnfocabaaGreat
open Go.RowKit

theorem mod_bd {W c : Int} (hW : 1 ≤ W ∧ W ≤ 8) : 0 ≤ c % W ∧ c % W < W ∧ c % W ≤ 7 := by
  have h1 := Int.emod_nonneg c (b := W) (by omega)
  have h2 := Int.emod_lt_of_pos c (b := W) (by omega)
  omega
theorem div_bd {W H c : Int} (hW : 1 ≤ W ∧ W ≤ 8) (hc : 0 ≤ c ∧ c < W * H) : 0 ≤ c / W ∧ c / W < H := by
  constructor
  · exact Int.ediv_nonneg hc.1 (by omega)
  · exact Int.ediv_lt_of_lt_mul (by omega) (by rw [Int.mul_comm]; exact hc.2)
theorem mulN {x y : Int} (hx : 0 ≤ x ∧ x ≤ 8) (hy : 0 ≤ y ∧ y ≤ 8) : 0 ≤ x * y ∧ x * y ≤ 64 :=
  ⟨Int.mul_nonneg hx.1 hy.1, by have := Int.mul_le_mul hx.2 hy.2 hy.1 (by omega); omega⟩
def turnV (W H c : Int) : Int := (c % W) * H + H - 1 - c / W
def mirrorV (W c : Int) : Int := c - c % W + W - 1 - c % W

set_option maxHeartbeats 400000 in
theorem spotOf_any (W H : Int) (A : Option Addr) (n c : Nat) (q : Int) (w : World) (hW : 1 ≤ W ∧ W ≤ 8) (hq : 0 ≤ q ∧ q ≤ 64) :
    Calls Tryz.prog 44 #[brd W H A n c, .int .i64 q] w fun e w' => e = .returned (lpr (q % W) (q / W)) ∧ Below w.heap.size w w' := by
  obtain ⟨hW1, hW2⟩ := hW
  obtain ⟨hq1, hq2⟩ := hq
  go_enter Tryz.func44, Tryz.ntmps44
  go_wp2
  go_region
  all_goals go_wp2
  exact bodyPost_ret (v := lpr (q % W) (q / W)) (by simp [results, Tryz.results44, go_sem]) rfl ⟨rfl, (by repeat (first | exact Below.refl _ _ | refine Below.setCell ?_ (by simp) _ | refine Below.drew ?_ | refine below_drewN ?_ _ | refine below_new ?_ _))⟩

set_option maxHeartbeats 400000 in
theorem number_any (x y W : Int) (w : World) (hx : 0 ≤ x ∧ x ≤ 1000) (hyW : 0 ≤ y * W ∧ y * W ≤ 1000) :
    Calls Tryz.prog 27 #[lpr x y, .int .i64 W] w fun e w' => e = .returned (.int .i64 (y * W + x)) ∧ Below w.heap.size w w' := by
  obtain ⟨hx1, hx2⟩ := hx
  obtain ⟨hy1, hy2⟩ := hyW
  go_enter Tryz.func27, Tryz.ntmps27
  go_wp2
  go_ret
  exact ⟨rfl, below_new (Below.refl _ _) _⟩

/-! ### TurnCell, MirrorCell -/
def turnCellV (W H : Int) (xs : List Int) (q : Int) : Int := if hasV W H xs q then turnV W H q else 0
def mirrorCellV (W H : Int) (xs : List Int) (q : Int) : Int := if hasV W H xs q then mirrorV W q else 0
theorem hasV_facts {W H q : Int} {xs : List Int} (h : hasV W H xs q = true) : goodB W H xs = true ∧ (1 ≤ W ∧ W ≤ 8) ∧ (1 ≤ H ∧ H ≤ 8) ∧ (0 ≤ q ∧ q < W * H) ∧ W * H ≤ 64 ∧ hasB W H xs q = true := by
  simp only [hasV, Bool.and_eq_true] at h
  obtain ⟨hW, hH, _, _⟩ := goodB_iff.1 h.1
  exact ⟨h.1, hW, hH, (hasB_iff.1 h.2).1, (cells_le hW hH).2, h.2⟩

end Go.Proofs.YtjlcaggnfocabaaGreat

namespace Go.Proofs.YtjlcaggnfocabaaGreat
open Go.RowKit

theorem div7 {W H c : Int} (hW : 1 ≤ W ∧ W ≤ 8) (hH : 1 ≤ H ∧ H ≤ 8) (hc : 0 ≤ c ∧ c < W * H) : 0 ≤ c / W ∧ c / W ≤ 7 := by
  have := div_bd hW hc; omega


end Go.Proofs.YtjlcaggnfocabaaGreat

namespace Go.Proofs.YtjlcaggnfocabaaGreat
open Go.RowKit

def posV (x : Int) : Int := if x < 0 then 0 else x
def roomV (s t : Int) : Int := posV (s - t)
theorem roomV_le {s t : Int} (h1 : 1 ≤ s ∧ s ≤ 8) (h2 : 0 ≤ t) : 0 ≤ roomV s t ∧ roomV s t ≤ 8 := by unfold roomV posV; split <;> omega
theorem mul_le8 {x y : Int} (hx : 0 ≤ x ∧ x ≤ 8) (hy : 0 ≤ y ∧ y ≤ 8) : 0 ≤ x * y ∧ x * y ≤ 64 :=
  ⟨Int.mul_nonneg hx.1 hy.1, by have := Int.mul_le_mul hx.2 hy.2 hy.1 (by omega); omega⟩
def oneV (m n a b : Int) : Int := roomV m a * roomV n b
def plainLeapsV (m n a b : Int) : Int := if sizeB m && sizeB n && leaperB a b then (if a = 0 then oneV m n a b + oneV m n b a else if a = b then 2 * oneV m n a b else 2 * (oneV m n a b + oneV m n b a)) else 0
def plainLeapsB (m n a b : Int) : Bool := sizeB m && sizeB n && leaperB a b
theorem oneV_le {m n a b : Int} (hm : 1 ≤ m ∧ m ≤ 8) (hn : 1 ≤ n ∧ n ≤ 8) (ha : 0 ≤ a) (hb : 0 ≤ b) : 0 ≤ oneV m n a b ∧ oneV m n a b ≤ 64 := mul_le8 (roomV_le hm ha) (roomV_le hn hb)

theorem quiet_drew {P : Program} {f : FuncId} {args : Array Value} {w : World} {a n : Nat} {v : Value} (h : Calls P f args (w.drewN (a + n)) fun e w' => e = .returned v ∧ w.drewN (a + n) = w') :
    Calls P f args (w.drewN (a + n)) fun e w' => e = .returned v ∧ ∃ m, w' = w.drewN (a + m) := h.mono fun _ _ ⟨he, hw⟩ => ⟨he, n, hw.symm⟩
theorem quiet_same {P : Program} {f : FuncId} {args : Array Value} {w : World} {v : Value} (h : Calls P f args w fun e w' => e = .returned v ∧ w = w') : Calls P f args w fun e w' => e = .returned v ∧ w' = w :=
  h.mono fun _ _ ⟨he, hw⟩ => ⟨he, hw.symm⟩

set_option maxHeartbeats 400000 in
theorem l1Most_any (x : Int) (w : World) :
    Calls Tryz.prog 50 #[.int .i64 0, .int .i64 x] w fun e w' => e = .returned (.int .i64 (posV x)) ∧ w = w' := by
  by_cases h : x < 0
  · go_enter Tryz.func50, Tryz.ntmps50
    go_wp2
    go_ret
    exact ⟨ret_int (by unfold posV; split <;> omega), rfl⟩
  · go_enter Tryz.func50, Tryz.ntmps50
    go_wp2
    go_ret
    exact ⟨ret_int (by unfold posV; split <;> omega), rfl⟩

theorem plain_eq {m n a b : Int} (hs : (sizeB m && sizeB n) = true) (hl : leaperB a b = true) :
    plainLeapsV m n a b = (if 0 < a ∧ a < b then (oneV m n a b + oneV m n b a) * 2 else oneV m n a b + oneV m n b a) := by
  have l1 := leaperB_iff.1 hl
  rw [plainLeapsV, hs, hl]
  simp only [Bool.and_self, if_true]
  by_cases ha : a = 0
  · subst ha; simp
  · by_cases hab : a = b
    · subst hab; simp [ha]; omega
    · rw [if_neg ha, if_neg hab, if_pos (by omega)]; omega

/-! ### Plain boards -/
def plainB (m n : Int) : Bool := sizeB m && sizeB n
def PlainBoard_w (m n : Int) : Int := if plainB m n then m else 0
def PlainBoard_h (m n : Int) : Int := if plainB m n then n else 0

end Go.Proofs.YtjlcaggnfocabaaGreat

namespace Go.Proofs.YtjlcaggnfocabaaGreat
open Go.RowKit

def absV (x : Int) : Int := if x < 0 then -x else x
theorem absV_bd {x : Int} (h : -100 ≤ x ∧ x ≤ 100) : 0 ≤ absV x ∧ absV x ≤ 100 := by unfold absV; split <;> omega
theorem absV_sub (x y : Int) : absV (x - y) = absV (y - x) := by unfold absV; split <;> split <;> omega
def leapB (W a b p q : Int) : Bool := decide ((absV (p % W - q % W) = a ∧ absV (p / W - q / W) = b) ∨ (absV (p % W - q % W) = b ∧ absV (p / W - q / W) = a))

set_option maxHeartbeats 400000 in
theorem l1Abs_any (x : Int) (w : World) (h1 : -1000 ≤ x) (h2 : x ≤ 1000) :
    Calls Tryz.prog 72 #[.int .i64 x] w fun e w' => e = .returned (.int .i64 (absV x)) ∧ w = w' := by
  by_cases h : x < 0
  · have h3 : ¬ -x < x := by omega
    go_enter Tryz.func72, Tryz.ntmps72
    go_wp2
    go_ret
    exact ⟨ret_int (by unfold absV; split <;> omega), rfl⟩
  · by_cases h0 : x = 0
    · subst h0
      go_enter Tryz.func72, Tryz.ntmps72
      go_wp2
      go_ret
      exact ⟨ret_int (by unfold absV; split <;> omega), rfl⟩
    · have h3 : -x < x := by omega
      go_enter Tryz.func72, Tryz.ntmps72
      go_wp2
      go_ret
      exact ⟨ret_int (by unfold absV; split <;> omega), rfl⟩

set_option maxHeartbeats 400000 in
theorem apart_any (x y : Int) (w : World) (h1 : 0 ≤ x) (h2 : x ≤ 100) (h3 : 0 ≤ y) (h4 : y ≤ 100) :
    Calls Tryz.prog 83 #[.int .i64 x, .int .i64 y] w fun e w' => e = .returned (.int .i64 (absV (x - y))) ∧ w = w' := by
  go_enter Tryz.func83, Tryz.ntmps83
  go_wp2
  all_goals (go_ret; exact ⟨ret_int (by unfold absV; split <;> omega), rfl⟩)

set_option maxHeartbeats 1000000 in
theorem boIs_any (W H : Int) (A : Option Addr) (n c : Nat) (a b p q : Int) (w : World) (hW : 1 ≤ W ∧ W ≤ 8) (hp : 0 ≤ p ∧ p ≤ 64) (hq : 0 ≤ q ∧ q ≤ 64) :
    Calls Tryz.prog 59 #[brd W H A n c, lpr a b, .int .i64 p, .int .i64 q] w fun e w' => e = .returned (.bool (leapB W a b p q)) ∧ Below w.heap.size w w' := by
  have hm := mod_bd (c := p) hW
  have hm' := mod_bd (c := q) hW
  have hd : 0 ≤ p / W ∧ p / W ≤ 64 := ⟨Int.ediv_nonneg hp.1 (by omega), Int.le_trans (Int.ediv_le_self _ hp.1) hp.2⟩
  have hd' : 0 ≤ q / W ∧ q / W ≤ 64 := ⟨Int.ediv_nonneg hq.1 (by omega), Int.le_trans (Int.ediv_le_self _ hq.1) hq.2⟩
  obtain ⟨hW1, hW2⟩ := hW
  obtain ⟨hp1, hp2⟩ := hp
  obtain ⟨hq1, hq2⟩ := hq
  obtain ⟨hm1, hm2, hm3⟩ := hm
  obtain ⟨hm4, hm5, hm6⟩ := hm'
  obtain ⟨hd1, hd2⟩ := hd
  obtain ⟨hd3, hd4⟩ := hd'
  go_enter Tryz.func59, Tryz.ntmps59
  go_wp2
  go_quiet ((go_at_call 72; exact Calls.quiet_of_same (quiet_same (l1Abs_any _ _ (by omega) (by omega)))))
  go_wp2
  all_goals (go_ret; refine ⟨ret_bool ?_, below_drewN (below_new (below_new (Below.refl _ _) _) _) _⟩)
  all_goals (rw [Bool.eq_iff_iff]; simp only [leapB, beq_iff_eq, decide_eq_true_eq, reduceCtorEq, true_iff, false_iff]; omega)

set_option maxHeartbeats 400000 in
theorem spotOf_exact (W H : Int) (A : Option Addr) (n c : Nat) (q : Int) (w : World) (hW : 1 ≤ W ∧ W ≤ 8) (hq : 0 ≤ q ∧ q ≤ 64) :
    Calls Tryz.prog 44 #[brd W H A n c, .int .i64 q] w fun e w' => e = .returned (lpr (q % W) (q / W)) ∧ ∃ m, w' = ((w.alloc (.cells #[.int .i64 W, .int .i64 H, .slice A n c] 31)).alloc (.cells #[.int .i64 (q % W), .int .i64 (q / W)] 50)).drewN m := by
  obtain ⟨hW1, hW2⟩ := hW
  obtain ⟨hq1, hq2⟩ := hq
  go_enter Tryz.func44, Tryz.ntmps44
  go_wp2
  go_region
  all_goals go_wp2
  exact bodyPost_ret (v := lpr (q % W) (q / W)) (by simp [results, Tryz.results44, go_sem]) rfl ⟨rfl, 1, rfl⟩

theorem keep3 {w w' : World} {β : Nat} {u v x : Value} (h0 : w.cell? ⟨β, 0, none⟩ = some u) (h1 : w.cell? ⟨β, 1, none⟩ = some v) (h2 : w.cell? ⟨β, 2, none⟩ = some x) (hl : β < w.heap.size) (hb : Below w.heap.size w w') :
    w'.cell? ⟨β, 0, none⟩ = some u ∧ w'.cell? ⟨β, 1, none⟩ = some v ∧ w'.cell? ⟨β, 2, none⟩ = some x := ⟨cell_keep h0 hl hb, cell_keep h1 hl hb, cell_keep h2 hl hb⟩

theorem keep4 {w w' : World} {β γ : Nat} {u v x y : Value} (h0 : w.cell? ⟨β, 0, none⟩ = some u) (h1 : w.cell? ⟨β, 1, none⟩ = some v) (h2 : w.cell? ⟨γ, 0, none⟩ = some x) (h3 : w.cell? ⟨γ, 1, none⟩ = some y) (hl : β < w.heap.size) (hm : γ < w.heap.size) (hb : Below w.heap.size w w') :
    w'.cell? ⟨β, 0, none⟩ = some u ∧ w'.cell? ⟨β, 1, none⟩ = some v ∧ w'.cell? ⟨γ, 0, none⟩ = some x ∧ w'.cell? ⟨γ, 1, none⟩ = some y := ⟨cell_keep h0 hl hb, cell_keep h1 hl hb, cell_keep h2 hm hb, cell_keep h3 hm hb⟩

def SpotAt (wr : World) (g : Nat) (x y : Int) : Prop := wr.cell? ⟨g, 0, none⟩ = some (.int .i64 x) ∧ wr.cell? ⟨g, 1, none⟩ = some (.int .i64 y) ∧ g < wr.heap.size

set_option maxHeartbeats 4000000 in
theorem doesLeap_any (W H : Int) (A : Option Addr) (n c : Nat) (a b p q : Int) (w : World) (hW : 1 ≤ W ∧ W ≤ 8) (hp : 0 ≤ p ∧ p ≤ 64) (hq : 0 ≤ q ∧ q ≤ 64) :
    Calls Tryz.prog 73 #[brd W H A n c, lpr a b, .int .i64 p, .int .i64 q] w fun e w' => e = .returned (.bool (leapB W a b p q)) ∧ Below w.heap.size w w' := by
  have HW := Lib.hid hW; have HP := Lib.hid hp; have HQ := Lib.hid hq
  clear hW hp hq
  go_enter Tryz.func73, Tryz.ntmps73
  have hAD : ∀ (w : World) (k : Nat) (o : Obj), (w.drewN k).alloc o = (w.alloc o).drewN k := fun _ _ _ => rfl
  have hSD : ∀ (w : World) (k : Nat) (p : Addr) (u : Value), (w.drewN k).setCell p u = (w.setCell p u).drewN k := fun _ _ _ _ => rfl
  go_upto_region 1 with fail
  go_cut [9, 10] (fun s9 s10 wx => ∃ gp gq : Nat, s9 = .pointer (some ⟨gp, 0, none⟩) ∧ s10 = .pointer (some ⟨gq, 0, none⟩) ∧ SpotAt wx gp (p % W) (p / W) ∧ SpotAt wx gq (q % W) (q / W) ∧ SpotAt wx (w.heap.size + 1) a b ∧ Below w.heap.size w wx)
  case first =>
    have a0 : ((w.alloc (.cells #[.int .i64 W, .int .i64 H, .slice A n c] 31)).alloc (.cells #[.int .i64 a, .int .i64 b] 33)).cell? ⟨w.heap.size, 0, none⟩ = some (.int .i64 W) := by simp
    have a1 : ((w.alloc (.cells #[.int .i64 W, .int .i64 H, .slice A n c] 31)).alloc (.cells #[.int .i64 a, .int .i64 b] 33)).cell? ⟨w.heap.size, 1, none⟩ = some (.int .i64 H) := by simp
    have a2 : ((w.alloc (.cells #[.int .i64 W, .int .i64 H, .slice A n c] 31)).alloc (.cells #[.int .i64 a, .int .i64 b] 33)).cell? ⟨w.heap.size, 2, none⟩ = some (.slice A n c) := by simp
    have al : w.heap.size < ((w.alloc (.cells #[.int .i64 W, .int .i64 H, .slice A n c] 31)).alloc (.cells #[.int .i64 a, .int .i64 b] 33)).heap.size := by simp; omega
    go_region_held3 (fun w' => w'.cell? ⟨w.heap.size, 0, none⟩ = some (.int .i64 W) ∧ w'.cell? ⟨w.heap.size, 1, none⟩ = some (.int .i64 H) ∧ w'.cell? ⟨w.heap.size, 2, none⟩ = some (.slice A n c)) (first | exact ⟨a0, a1, a2⟩ | exact keep3 a0 a1 a2 al (by repeat (first | exact Below.refl _ _ | refine below_drewN ?_ _ | refine Below.drew ?_ | refine Below.setCell ?_ (by simp) _ | refine Below.setCell ?_ (by simp; omega) _ | refine below_new ?_ _)))
      (first | (go_at_call 44; refine (spotOf_exact _ _ _ _ _ _ _ ?_ ?_).mono ?_; (exact HW.out); (first | exact HP.out | exact HQ.out); rintro e w' ⟨rfl, m, rfl⟩))
    all_goals (go_wp2_with fail; go_meet; exact ⟨_, _, rfl, rfl, ⟨by go_simp, by go_simp, by simp; try omega⟩, ⟨by go_simp, by go_simp, by simp; try omega⟩, ⟨by go_simp, by go_simp, by simp; try omega⟩, (by repeat (first | exact Below.refl _ _ | refine below_drewN ?_ _ | refine Below.drew ?_ | refine Below.setCell ?_ (by simp) _ | refine Below.setCell ?_ (by simp; omega) _ | refine below_new ?_ _))⟩)
  case rest =>
    obtain ⟨gp, gq, rfl, rfl, hp, hq, hl, hb⟩ := hcut
    obtain ⟨hp0, hp1, hp2⟩ := hp
    obtain ⟨hq0, hq1, hq2⟩ := hq
    obtain ⟨hl0, hl1, hl2⟩ := hl
    have B := Lib.hid hb
    have HM := Lib.hid (mod_bd (c := p) HW.out); have HM' := Lib.hid (mod_bd (c := q) HW.out)
    have HD : Hid (0 ≤ p / W ∧ p / W ≤ 64) := ⟨Int.ediv_nonneg HP.out.1 (by have := HW.out; omega), Int.le_trans (Int.ediv_le_self _ HP.out.1) HP.out.2⟩
    have HD' : Hid (0 ≤ q / W ∧ q / W ≤ 64) := ⟨Int.ediv_nonneg HQ.out.1 (by have := HW.out; omega), Int.le_trans (Int.ediv_le_self _ HQ.out.1) HQ.out.2⟩
    clear hb hAD hSD
    go_wp2_with fail
    go_region_held3 (fun w' => w'.cell? ⟨gp, 0, none⟩ = some (.int .i64 (p % W)) ∧ w'.cell? ⟨gp, 1, none⟩ = some (.int .i64 (p / W)) ∧ w'.cell? ⟨gq, 0, none⟩ = some (.int .i64 (q % W)) ∧ w'.cell? ⟨gq, 1, none⟩ = some (.int .i64 (q / W))) (first | exact ⟨hp0, hp1, hq0, hq1⟩ | exact keep4 hp0 hp1 hq0 hq1 hp2 hq2 (by repeat (first | exact Below.refl _ _ | refine below_drewN ?_ _ | refine Below.drew ?_ | refine Below.setCell ?_ (by simp) _ | refine Below.setCell ?_ (by simp; omega) _ | refine below_new ?_ _)))
      (first | (go_at_call 83; refine (apart_any _ _ _ ?_ ?_ ?_ ?_).mono ?_; (have := HM.out; have := HD.out; omega); (have := HM.out; have := HD.out; omega); (have := HM'.out; have := HD'.out; omega); (have := HM'.out; have := HD'.out; omega); rintro e w' ⟨rfl, rfl⟩))
    all_goals go_wp2
    all_goals (go_ret; refine ⟨ret_bool ?_, (by repeat (first | exact B.out | refine below_drewN ?_ _ | refine Below.drew ?_ | refine below_new ?_ _))⟩)
    all_goals (rw [Bool.eq_iff_iff]; simp only [leapB, decide_eq_true_eq, reduceCtorEq, true_iff, false_iff] at *; omega)

end Go.Proofs.YtjlcaggnfocabaaGreat

namespace Go.Proofs.YtjlcaggnfocabaaGreat

def crossS (a b c : Int × Int) : Int := (b.1 - a.1) * (c.2 - a.2) - (b.2 - a.2) * (c.1 - a.1)
def turnS (a b c : Int × Int) : Int := (b.1 - a.1) * (c.2 - b.2) - (b.2 - a.2) * (c.1 - b.1)
theorem turn_cross (a b c : Int × Int) : turnS a b c = crossS a b c := by unfold turnS crossS; grind
theorem cross_swap (a b c : Int × Int) : crossS b a c = - crossS a b c := by unfold crossS; grind
def onS (a b c : Int × Int) : Bool := decide (crossS a b c = 0) && (decide ((a.1 - c.1) * (b.1 - c.1) ≤ 0) && decide ((a.2 - c.2) * (b.2 - c.2) ≤ 0))
def passS (a b c : Int × Int) : Bool := decide (turnS a b c = 0) && decide ((a.1 - c.1) * (b.1 - c.1) + (a.2 - c.2) * (b.2 - c.2) < 0)
def partsS (a b c d : Int × Int) : Bool := decide (turnS a b c * turnS a b d < 0)
def crosS (a b c d : Int × Int) : Bool := (decide (a = c ∧ b = d) || (partsS a b c d && partsS c d a b)) || (passS a b c || (passS a b d || (passS c d a || passS c d b)))
def sgnV (x : Int) : Int := if 0 < x then 1 else if x < 0 then -1 else 0
theorem sgn_mul {x y : Int} : sgnV x * sgnV y < 0 ↔ x * y < 0 := by
  unfold sgnV
  rcases Int.lt_trichotomy x 0 with hx | hx | hx <;> rcases Int.lt_trichotomy y 0 with hy | hy | hy
  · have := Int.mul_pos_of_neg_of_neg hx hy; simp [hx, hy, Int.not_lt.2 (Int.le_of_lt hx), Int.not_lt.2 (Int.le_of_lt hy)]; omega
  · subst hy; simp
  · have := Int.mul_neg_of_neg_of_pos hx hy; simp [hx, hy, Int.not_lt.2 (Int.le_of_lt hx)]; omega
  · subst hx; simp
  · subst hx; simp
  · subst hx; simp
  · have := Int.mul_neg_of_pos_of_neg hx hy; simp [hx, hy, Int.not_lt.2 (Int.le_of_lt hy)]; omega
  · subst hy; simp
  · have := Int.mul_pos hx hy; simp [hx, hy]; omega
theorem pass_on {a b c : Int × Int} (h : a ≠ b) : passS a b c = (onS a b c && (decide (c ≠ a) && decide (c ≠ b))) := by
  obtain ⟨a1, a2⟩ := a
  obtain ⟨b1, b2⟩ := b
  obtain ⟨c1, c2⟩ := c
  rw [Bool.eq_iff_iff]
  simp only [passS, onS, Bool.and_eq_true, decide_eq_true_eq, turn_cross]
  have hc : crossS (a1, a2) (b1, b2) (c1, c2) = (a2 - c2) * (b1 - c1) - (a1 - c1) * (b2 - c2) ∨ crossS (a1, a2) (b1, b2) (c1, c2) = (a1 - c1) * (b2 - c2) - (a2 - c2) * (b1 - c1) := by unfold crossS; first | (left; grind) | (right; grind)
  have hab : ¬ (a1 = b1 ∧ a2 = b2) := fun ⟨h1, h2⟩ => h (by rw [h1, h2])
  constructor
  · rintro ⟨h1, h2⟩
    have h3 : (a1 - c1) * (b2 - c2) = (a2 - c2) * (b1 - c1) := by omega
    have h4 : ((a1 - c1) * (b1 - c1)) * ((a2 - c2) * (b2 - c2)) = ((a1 - c1) * (b2 - c2)) * ((a1 - c1) * (b2 - c2)) := by
      have : ((a1 - c1) * (b1 - c1)) * ((a2 - c2) * (b2 - c2)) = ((a1 - c1) * (b2 - c2)) * ((a2 - c2) * (b1 - c1)) := by grind
      rw [this, ← h3]
    have h5 : 0 ≤ ((a1 - c1) * (b2 - c2)) * ((a1 - c1) * (b2 - c2)) := by
      rcases Int.le_total 0 ((a1 - c1) * (b2 - c2)) with h | h
      · exact Int.mul_nonneg h h
      · exact Int.mul_nonneg_of_nonpos_of_nonpos h h
    have hca : (c1, c2) ≠ (a1, a2) := fun e => by injection e with e1 e2; subst e1 e2; simp at h2
    have hcb : (c1, c2) ≠ (b1, b2) := fun e => by injection e with e1 e2; subst e1 e2; simp at h2
    clear hc h3
    generalize (a1 - c1) * (b1 - c1) = u at *
    generalize (a2 - c2) * (b2 - c2) = v at *
    have hu : u ≤ 0 := by
      rcases Int.lt_or_le 0 u with h | h
      · have := Int.mul_neg_of_pos_of_neg h (show v < 0 by omega); omega
      · exact h
    have hv : v ≤ 0 := by
      rcases Int.lt_or_le 0 v with h | h
      · have := Int.mul_neg_of_neg_of_pos (show u < 0 by omega) h; omega
      · exact h
    exact ⟨⟨h1, hu, hv⟩, hca, hcb⟩
  · rintro ⟨⟨h1, h2, h3⟩, h4, h5⟩
    refine ⟨h1, ?_⟩
    have h6 : (a1 - c1) * (b2 - c2) = (a2 - c2) * (b1 - c1) := by omega
    have hca : ¬ (a1 - c1 = 0 ∧ a2 - c2 = 0) := fun ⟨e1, e2⟩ => h4 (by rw [show c1 = a1 by omega, show c2 = a2 by omega])
    have hcb : ¬ (b1 - c1 = 0 ∧ b2 - c2 = 0) := fun ⟨e1, e2⟩ => h5 (by rw [show c1 = b1 by omega, show c2 = b2 by omega])
    clear hc h1 h4 h5 hab h
    rcases Int.lt_or_le ((a1 - c1) * (b1 - c1) + (a2 - c2) * (b2 - c2)) 0 with h | h
    · exact h
    · exfalso
      have e1 : (a1 - c1) * (b1 - c1) = 0 := by omega
      have e2 : (a2 - c2) * (b2 - c2) = 0 := by omega
      generalize a1 - c1 = p at *
      generalize a2 - c2 = q at *
      generalize b1 - c1 = r at *
      generalize b2 - c2 = s at *
      rcases Int.mul_eq_zero.1 e1 with z | z <;> rcases Int.mul_eq_zero.1 e2 with y | y
      · exact hca ⟨z, y⟩
      · subst z y
        have : q * r = 0 := by omega
        rcases Int.mul_eq_zero.1 this with z | z <;> subst z <;> simp at hca hcb
      · subst z y
        have : p * s = 0 := by omega
        rcases Int.mul_eq_zero.1 this with z | z <;> subst z <;> simp at hca hcb
      · exact hcb ⟨z, y⟩
theorem parts_sgn {a b c d : Int × Int} : partsS a b c d = decide (sgnV (crossS a b c) * sgnV (crossS a b d) < 0) := by
  rw [partsS, turn_cross, turn_cross]; exact decide_eq_decide.2 sgn_mul.symm
theorem parts_swap (a b c d : Int × Int) : partsS b a c d = partsS a b c d := by
  simp only [partsS, turn_cross, cross_swap a b]; rw [Int.neg_mul_neg]
theorem parts_swap2 (a b c d : Int × Int) : partsS a b d c = partsS a b c d := by
  simp only [partsS]; rw [Int.mul_comm]
theorem on_swap (a b c : Int × Int) : onS b a c = onS a b c := by
  simp only [onS, cross_swap a b, Int.mul_comm (b.1 - c.1), Int.mul_comm (b.2 - c.2)]
  congr 1
  exact decide_eq_decide.2 (by omega)
def spotS (W q : Int) : Int × Int := (q % W, q / W)
theorem spotS_inj {W p q : Int} (h : spotS W p = spotS W q) : p = q := by
  injection h with h1 h2
  have e1 := Int.emod_add_mul_ediv p W
  have e2 := Int.emod_add_mul_ediv q W
  rw [h1, h2] at e1; omega
/-- The model's: two leaps cross. -/
def doB (W p q r s : Int) : Bool :=
  (decide ((p = r ∧ q = s) ∨ (p = s ∧ q = r))) ||
  (((onS (spotS W p) (spotS W q) (spotS W r) && (decide (r ≠ p) && decide (r ≠ q))) || (onS (spotS W p) (spotS W q) (spotS W s) && (decide (s ≠ p) && decide (s ≠ q)))) ||
  (((onS (spotS W r) (spotS W s) (spotS W p) && (decide (p ≠ r) && decide (p ≠ s))) || (onS (spotS W r) (spotS W s) (spotS W q) && (decide (q ≠ r) && decide (q ≠ s)))) ||
  (partsS (spotS W p) (spotS W q) (spotS W r) (spotS W s) && partsS (spotS W r) (spotS W s) (spotS W p) (spotS W q))))
def crosL (W p q r s : Int) : Bool := crosS (spotS W (min p q)) (spotS W (max p q)) (spotS W (min r s)) (spotS W (max r s))
theorem spotS_ne {W p q : Int} (h : p ≠ q) : spotS W p ≠ spotS W q := fun e => h (spotS_inj e)
theorem dec_spot {W p q : Int} : decide (spotS W p = spotS W q) = decide (p = q) := decide_eq_decide.2 ⟨spotS_inj, fun e => by rw [e]⟩
theorem do_swap (W p q r s : Int) : doB W q p r s = doB W p q r s := by
  unfold doB
  rw [on_swap (spotS W p), on_swap (spotS W p), parts_swap (spotS W p), parts_swap2 (spotS W r) (spotS W s) (spotS W p)]
  rw [show decide ((q = r ∧ p = s) ∨ (q = s ∧ p = r)) = decide ((p = r ∧ q = s) ∨ (p = s ∧ q = r)) from decide_eq_decide.2 (by omega)]
  rw [Bool.and_comm (decide (r ≠ q)), Bool.and_comm (decide (s ≠ q)), Bool.or_comm (onS (spotS W r) (spotS W s) (spotS W q) && _)]
theorem do_swap2 (W p q r s : Int) : doB W p q s r = doB W p q r s := by
  unfold doB
  rw [on_swap (spotS W r), on_swap (spotS W r), parts_swap2 (spotS W p) (spotS W q) (spotS W r), parts_swap (spotS W r) (spotS W s) (spotS W p)]
  rw [show decide ((p = s ∧ q = r) ∨ (p = r ∧ q = s)) = decide ((p = r ∧ q = s) ∨ (p = s ∧ q = r)) from decide_eq_decide.2 (by omega)]
  rw [Bool.and_comm (decide (p ≠ s)), Bool.and_comm (decide (q ≠ s)), Bool.or_comm (onS (spotS W p) (spotS W q) (spotS W s) && _)]
theorem cros_key {W p q r s : Int} (h3 : p < q) (h4 : r < s) : crosS (spotS W p) (spotS W q) (spotS W r) (spotS W s) = doB W p q r s := by
  have h1 : p ≠ q := by omega
  have h2 : r ≠ s := by omega
  have he : decide ((p = r ∧ q = s) ∨ (p = s ∧ q = r)) = decide (spotS W p = spotS W r ∧ spotS W q = spotS W s) :=
    decide_eq_decide.2 ⟨fun h => by rcases h with ⟨e1, e2⟩ | ⟨e1, e2⟩; · exact ⟨by rw [e1], by rw [e2]⟩
                                    · omega, fun h => .inl ⟨spotS_inj h.1, spotS_inj h.2⟩⟩
  have hd : ∀ x y : Int, decide (spotS W x ≠ spotS W y) = decide (x ≠ y) := fun x y => decide_eq_decide.2 ⟨fun h e => h (by rw [e]), fun h e => h (spotS_inj e)⟩
  rw [crosS, doB, he]
  simp only [pass_on (spotS_ne (W := W) h1), pass_on (spotS_ne (W := W) h2), hd]
  ac_rfl
theorem cros_do {W p q r s : Int} (hpq : p ≠ q) (hrs : r ≠ s) : crosL W p q r s = doB W p q r s := by
  rw [crosL]
  rcases Int.lt_or_le p q with h1 | h1 <;> rcases Int.lt_or_le r s with h2 | h2
  · rw [Int.min_eq_left (by omega), Int.max_eq_right (by omega), Int.min_eq_left (by omega), Int.max_eq_right (by omega), cros_key h1 h2]
  · rw [Int.min_eq_left (by omega), Int.max_eq_right (by omega), Int.min_eq_right (by omega), Int.max_eq_left (by omega), cros_key h1 (by omega), do_swap2]
  · rw [Int.min_eq_right (by omega), Int.max_eq_left (by omega), Int.min_eq_left (by omega), Int.max_eq_right (by omega), cros_key (by omega) h2, do_swap]
  · rw [Int.min_eq_right (by omega), Int.max_eq_left (by omega), Int.min_eq_right (by omega), Int.max_eq_left (by omega), cros_key (by omega) (by omega), do_swap, do_swap2]

abbrev Ln := (Int × Int) × (Int × Int)
def noLn : Ln := ((0, 0), (0, 0))
def lnL (W p q : Int) : Ln := (spotS W (min p q), spotS W (max p q))
def cr (l m : Ln) : Bool := crosS l.1 l.2 m.1 m.2
theorem cr_do {W p q r s : Int} (hpq : p ≠ q) (hrs : r ≠ s) : cr (lnL W p q) (lnL W r s) = doB W p q r s := cros_do hpq hrs
def linesTo (W : Int) (ps : List Int) (k : Nat) : List Ln := (List.range k).map fun i => lnL W (ps.getD i 0) (ps.getD (i + 1) 0)
def linesL (W : Int) (ps : List Int) : List Ln := linesTo W ps (ps.length - 1)
theorem linesTo_len (W : Int) (ps : List Int) (k : Nat) : (linesTo W ps k).length = k := by simp [linesTo]
theorem linesL_len (W : Int) (ps : List Int) : (linesL W ps).length = ps.length - 1 := linesTo_len _ _ _
theorem linesTo_succ (W : Int) (ps : List Int) (k : Nat) : linesTo W ps (k + 1) = linesTo W ps k ++ [lnL W (ps.getD k 0) (ps.getD (k + 1) 0)] := by
  rw [linesTo, List.range_succ, List.map_append]; rfl
theorem linesL_at {W : Int} {ps : List Int} {i : Nat} (h : i < ps.length - 1) : (linesL W ps)[i]? = some (lnL W (ps.getD i 0) (ps.getD (i + 1) 0)) := by
  rw [linesL, linesTo, List.getElem?_map, List.getElem?_range h]; rfl
/-- Round the list: its lines with that from the last cell to the first one. -/
def roundP (ps : List Int) : List Int := ps ++ [ps.getD 0 0]
theorem roundP_len (ps : List Int) : (roundP ps).length = ps.length + 1 := by simp [roundP]
theorem roundP_at {ps : List Int} {i : Nat} (h : i < ps.length) : (roundP ps).getD i 0 = ps.getD i 0 := by
  rw [roundP, List.getD_eq_getElem?_getD, List.getElem?_append_left h, List.getD_eq_getElem?_getD]
theorem roundP_last (ps : List Int) : (roundP ps).getD ps.length 0 = ps.getD 0 0 := by
  rw [roundP, List.getD_eq_getElem?_getD, List.getElem?_append_right (Nat.le_refl _)]; simp
theorem linesL_round {W : Int} {ps : List Int} (h : 1 ≤ ps.length) : linesL W (roundP ps) = linesL W ps ++ [lnL W (ps.getD (ps.length - 1) 0) (ps.getD 0 0)] := by
  have e : ps.length = (ps.length - 1) + 1 := by omega
  rw [linesL, roundP_len, Nat.add_sub_cancel, e, linesTo_succ, ← e, roundP_last, roundP_at (by omega)]
  congr 1
  rw [linesL, linesTo, linesTo]
  refine List.map_congr_left fun i hi => ?_
  have := List.mem_range.1 hi
  rw [roundP_at (by omega), roundP_at (by omega)]

/-! ### Pairs that are counted -/
def rwR (R : Nat → Nat → Bool) (i j : Nat) : Nat := ((List.range j).filter (R i)).length
def cntR (R : Nat → Nat → Bool) : Nat → Nat
  | 0 => 0
  | i + 1 => cntR R i + rwR R i i
theorem rwR_le (R : Nat → Nat → Bool) (i j : Nat) : rwR R i j ≤ j := by
  have := List.length_filter_le (R i) (List.range j); rw [List.length_range] at this; exact this
theorem rwR_yes {R : Nat → Nat → Bool} {i j : Nat} (h : R i j = true) : rwR R i (j + 1) = rwR R i j + 1 := by
  rw [rwR, List.range_succ, List.filter_append, List.length_append]; simp [h, rwR]
theorem rwR_no {R : Nat → Nat → Bool} {i j : Nat} (h : R i j = false) : rwR R i (j + 1) = rwR R i j := by
  rw [rwR, List.range_succ, List.filter_append, List.length_append]; simp [h, rwR]
theorem cntR_le (R : Nat → Nat → Bool) : ∀ n, cntR R n ≤ n * n
  | 0 => Nat.le_refl _
  | n + 1 => by have h1 := cntR_le R n; have h2 := rwR_le R n n; rw [cntR, Nat.succ_mul_succ_eq]; omega
theorem cntR_congr {R S : Nat → Nat → Bool} : ∀ n, (∀ i j, j < i → i < n → R i j = S i j) → cntR R n = cntR S n
  | 0, _ => rfl
  | n + 1, h => by
    rw [cntR, cntR, cntR_congr n (fun i j h1 h2 => h i j h1 (by omega)), rwR, rwR]
    congr 2
    exact List.filter_congr fun j hj => h n j (List.mem_range.1 hj) (by omega)
def lnR (L : List Ln) (i j : Nat) : Bool := cr (L.getD i noLn) (L.getD j noLn)
def pathR (W : Int) (ps : List Int) (i j : Nat) : Bool := doB W (ps.getD i 0) (ps.getD (i + 1) 0) (ps.getD j 0) (ps.getD (j + 1) 0)
def crossN (W : Int) (ps : List Int) : Nat := cntR (pathR W ps) (ps.length - 1)
theorem lnR_path {W : Int} {ps : List Int} (h : ∀ i, i + 1 < ps.length → ps.getD i 0 ≠ ps.getD (i + 1) 0) : cntR (lnR (linesL W ps)) (linesL W ps).length = crossN W ps := by
  rw [linesL_len, crossN]
  refine cntR_congr _ fun i j h1 h2 => ?_
  rw [lnR, pathR, List.getD_eq_getElem?_getD, List.getD_eq_getElem?_getD, linesL_at h2, linesL_at (by omega)]
  exact cr_do (h i (by omega)) (h j (by omega))

end Go.Proofs.YtjlcaggnfocabaaGreat

namespace Go.Proofs.YtjlcaggnfocabaaGreat

/-! ### Inside a ring -/
def xorL (l : List Bool) : Bool := l.foldr xor false
theorem xorL_append (l m : List Bool) : xorL (l ++ m) = xor (xorL l) (xorL m) := by
  induction l with
  | nil => simp [xorL]
  | cons x t ih => simp only [xorL, List.cons_append, List.foldr_cons] at ih ⊢; rw [ih, Bool.xor_assoc]
theorem xorL_one (x : Bool) : xorL [x] = x := by simp [xorL]
def endsS (l : Ln) (s : Int × Int) : Bool := decide (s = l.1) || decide (s = l.2)
def hitS (l : Ln) (s : Int × Int) : Bool := endsS l s || passS l.1 l.2 s
def rightS (s : Int × Int) (l : Ln) : Bool := (decide (l.1.2 ≤ s.2) && decide (s.2 < l.2.2)) && decide (0 < turnS l.1 l.2 s)
def parB (L : List Ln) (s : Int × Int) : Bool := xorL (L.map (rightS s))
def insB (L : List Ln) (s : Int × Int) : Bool := L.all (fun l => !hitS l s) && parB L s
def lowM (W p q : Int) : Int := if q / W < p / W then q else p
def highM (W p q : Int) : Int := if q / W < p / W then p else q
def rightM (W p q c : Int) : Bool := (decide (lowM W p q / W ≤ c / W) && decide (c / W < highM W p q / W)) && decide (0 < crossS (spotS W (lowM W p q)) (spotS W (highM W p q)) (spotS W c))
def prevP (ps : List Int) (i : Nat) : Int := ps.getD ((i + ps.length - 1) % ps.length) 0
def onTo (W : Int) (ps : List Int) (c : Int) (k : Nat) : Bool := (List.range k).any fun i => onS (spotS W (prevP ps i)) (spotS W (ps.getD i 0)) (spotS W c)
def inTo (W : Int) (ps : List Int) (c : Int) (k : Nat) : Bool := xorL ((List.range k).map fun i => rightM W (prevP ps i) (ps.getD i 0) c)
theorem onTo_succ (W : Int) (ps : List Int) (c : Int) (k : Nat) : onTo W ps c (k + 1) = (onTo W ps c k || onS (spotS W (prevP ps k)) (spotS W (ps.getD k 0)) (spotS W c)) := by
  rw [onTo, List.range_succ, List.any_append]; simp [onTo]
theorem inTo_succ (W : Int) (ps : List Int) (c : Int) (k : Nat) : inTo W ps c (k + 1) = xor (inTo W ps c k) (rightM W (prevP ps k) (ps.getD k 0) c) := by
  rw [inTo, List.range_succ, List.map_append, xorL_append]; simp [inTo, xorL_one]
theorem on_ends (a b : Int × Int) : onS a b a = true ∧ onS a b b = true := by
  simp [onS, crossS]; grind
theorem hit_on {W p q c : Int} (h : p ≠ q) : hitS (lnL W p q) (spotS W c) = onS (spotS W p) (spotS W q) (spotS W c) := by
  have key : ∀ a b s : Int × Int, a ≠ b → ((decide (s = a) || decide (s = b)) || passS a b s) = onS a b s := fun a b s hab => by
    rw [pass_on hab]
    by_cases h1 : s = a
    · subst h1; simp [(on_ends s b).1]
    · by_cases h2 : s = b
      · subst h2; simp [(on_ends a s).2]
      · simp [h1, h2]
  rw [hitS, endsS, lnL]
  rcases Int.lt_or_le p q with h1 | h1
  · rw [Int.min_eq_left (by omega), Int.max_eq_right (by omega), key _ _ _ (spotS_ne h)]
  · rw [Int.min_eq_right (by omega), Int.max_eq_left (by omega), key _ _ _ (spotS_ne (Ne.symm h)), on_swap]
theorem right_eq {W p q c : Int} (hW : 1 ≤ W) : rightS (spotS W c) (lnL W p q) = rightM W p q c := by
  have hdm : ∀ x y : Int, x ≤ y → x / W ≤ y / W := fun x y h => Int.ediv_le_ediv (by omega) h
  rw [rightS, rightM, lnL, lowM, highM]
  simp only [turn_cross]
  rcases Int.lt_or_le p q with h1 | h1
  · rw [Int.min_eq_left (by omega), Int.max_eq_right (by omega)]
    have := hdm p q (by omega)
    rw [if_neg (by omega), if_neg (by omega)]; rfl
  · rw [Int.min_eq_right (by omega), Int.max_eq_left (by omega)]
    have := hdm q p (by omega)
    by_cases h2 : q / W < p / W
    · rw [if_pos h2, if_pos h2]; rfl
    · rw [if_neg h2, if_neg h2]
      have e : p / W = q / W := by omega
      rw [show (spotS W q).2 = q / W from rfl, show (spotS W p).2 = p / W from rfl, show (spotS W c).2 = c / W from rfl]
      rw [show (decide (q / W ≤ c / W) && decide (c / W < p / W)) = false by rw [Bool.and_eq_false_iff, decide_eq_false_iff_not, decide_eq_false_iff_not]; omega]
      rw [show (decide (p / W ≤ c / W) && decide (c / W < q / W)) = false by rw [Bool.and_eq_false_iff, decide_eq_false_iff_not, decide_eq_false_iff_not]; omega]
      rfl
theorem prevP_succ {ps : List Int} {i : Nat} (h : i < ps.length) : prevP ps (i + 1) = ps.getD i 0 := by
  rw [prevP, show i + 1 + ps.length - 1 = i + ps.length by omega, Nat.add_mod_right, Nat.mod_eq_of_lt h]
theorem prevP_zero {ps : List Int} (h : 1 ≤ ps.length) : prevP ps 0 = ps.getD (ps.length - 1) 0 := by
  rw [prevP, Nat.zero_add, Nat.mod_eq_of_lt (by omega)]
theorem ins_ring {W c : Int} {ps : List Int} (hW : 1 ≤ W) (hn : 1 ≤ ps.length) (h : ∀ i, i + 1 < ps.length → ps.getD i 0 ≠ ps.getD (i + 1) 0) (hl : ps.getD (ps.length - 1) 0 ≠ ps.getD 0 0) :
    insB (linesL W (roundP ps)) (spotS W c) = (inTo W ps c ps.length && !onTo W ps c ps.length) := by
  obtain ⟨n, hn'⟩ : ∃ n, ps.length = n + 1 := ⟨ps.length - 1, by omega⟩
  have e1 : parB (linesL W (roundP ps)) (spotS W c) = inTo W ps c ps.length := by
    rw [parB, linesL_round hn, List.map_append, xorL_append, List.map_cons, List.map_nil, xorL_one, right_eq hW, inTo, hn', List.range_succ_eq_map, List.map_cons]
    rw [show ∀ (x : Bool) l, xorL (x :: l) = xor x (xorL l) from fun _ _ => rfl, prevP_zero hn, Bool.xor_comm, hn', Nat.add_sub_cancel]
    congr 1
    rw [linesL, linesTo, hn', Nat.add_sub_cancel, List.map_map, List.map_map]
    congr 1
    refine List.map_congr_left fun i hi => ?_
    have := List.mem_range.1 hi
    show rightS _ _ = rightM W (prevP ps (i + 1)) (ps.getD (i + 1) 0) c
    rw [right_eq hW, prevP_succ (by omega)]
  have e2 : (linesL W (roundP ps)).all (fun l => !hitS l (spotS W c)) = !onTo W ps c ps.length := by
    rw [linesL_round hn, List.all_append, List.all_cons, List.all_nil, Bool.and_true, hit_on hl, onTo, hn', List.range_succ_eq_map, List.any_cons, prevP_zero hn, Bool.not_or, Bool.and_comm, hn', Nat.add_sub_cancel]
    congr 1
    rw [linesL, linesTo, hn', Nat.add_sub_cancel, List.all_map, List.any_map, List.not_any_eq_all_not]
    rw [Bool.eq_iff_iff, List.all_eq_true, List.all_eq_true]
    refine forall_congr' fun i => forall_congr' fun hi => ?_
    have := List.mem_range.1 hi
    show (!hitS _ _) = true ↔ (!onS (spotS W (prevP ps (i + 1))) (spotS W (ps.getD (i + 1) 0)) (spotS W c)) = true
    rw [hit_on (h i (by omega)), prevP_succ (by omega)]
  rw [insB, e1, e2, Bool.and_comm]
/-! ### Areas and turns -/
theorem cross_bd {a b c : Int × Int} (ha : (0 ≤ a.1 ∧ a.1 ≤ 64) ∧ (0 ≤ a.2 ∧ a.2 ≤ 64)) (hb : (0 ≤ b.1 ∧ b.1 ≤ 64) ∧ (0 ≤ b.2 ∧ b.2 ≤ 64)) (hc : (0 ≤ c.1 ∧ c.1 ≤ 64) ∧ (0 ≤ c.2 ∧ c.2 ≤ 64)) : -8192 ≤ crossS a b c ∧ crossS a b c ≤ 8192 := by
  have key : ∀ x y : Int, (-64 ≤ x ∧ x ≤ 64) → (-64 ≤ y ∧ y ≤ 64) → -4096 ≤ x * y ∧ x * y ≤ 4096 := fun x y hx hy => by
    constructor
    · have h1 := Int.mul_nonneg (show 0 ≤ 64 + x by omega) (show 0 ≤ 64 + y by omega)
      have h2 := Int.mul_nonneg (show 0 ≤ 64 - x by omega) (show 0 ≤ 64 - y by omega)
      rw [Int.add_mul, Int.mul_add, Int.mul_add] at h1
      rw [Int.sub_mul, Int.mul_sub, Int.mul_sub] at h2
      omega
    · have h1 := Int.mul_nonneg (show 0 ≤ 64 + x by omega) (show 0 ≤ 64 - y by omega)
      have h2 := Int.mul_nonneg (show 0 ≤ 64 - x by omega) (show 0 ≤ 64 + y by omega)
      rw [Int.add_mul, Int.mul_sub, Int.mul_sub] at h1
      rw [Int.sub_mul, Int.mul_add, Int.mul_add] at h2
      omega
  have h1 := key (b.1 - a.1) (c.2 - a.2) (by omega) (by omega)
  have h2 := key (b.2 - a.2) (c.1 - a.1) (by omega) (by omega)
  unfold crossS; omega
def triV (W : Int) (p q r : Int) : Int := crossS (spotS W p) (spotS W q) (spotS W r)
theorem spot_bd {W q : Int} (hW : 1 ≤ W ∧ W ≤ 8) (hq : 0 ≤ q ∧ q ≤ 64) : (0 ≤ (spotS W q).1 ∧ (spotS W q).1 ≤ 64) ∧ (0 ≤ (spotS W q).2 ∧ (spotS W q).2 ≤ 64) := by
  have h1 := Int.emod_nonneg q (show W ≠ 0 by omega)
  have h2 := Int.emod_lt_of_pos q (show 0 < W by omega)
  have h3 := Int.ediv_nonneg hq.1 (show 0 ≤ W by omega)
  have h4 := Int.ediv_le_self W hq.1
  exact ⟨⟨h1, by show q % W ≤ 64; omega⟩, ⟨h3, by show q / W ≤ 64; omega⟩⟩
theorem tri_bd {W p q r : Int} (hW : 1 ≤ W ∧ W ≤ 8) (hp : 0 ≤ p ∧ p ≤ 64) (hq : 0 ≤ q ∧ q ≤ 64) (hr : 0 ≤ r ∧ r ≤ 64) : -8192 ≤ triV W p q r ∧ triV W p q r ≤ 8192 :=
  cross_bd (spot_bd hW hp) (spot_bd hW hq) (spot_bd hW hr)
def areaTo (W : Int) (ps : List Int) : Nat → Int
  | 0 => 0
  | k + 1 => areaTo W ps k + triV W (ps.getD 0 0) (ps.getD (k + 1) 0) (ps.getD (k + 2) 0)
def areaV (W : Int) (ps : List Int) : Int := areaTo W ps (ps.length - 2)
theorem getD_64 {ps : List Int} (h : ∀ x ∈ ps, 0 ≤ x ∧ x < 64) (i : Nat) : 0 ≤ ps.getD i 0 ∧ ps.getD i 0 ≤ 64 := by
  rw [List.getD_eq_getElem?_getD]
  cases hx : ps[i]? with
  | none => simp
  | some x => have := h x (List.mem_of_getElem? hx); simp; omega
theorem areaTo_bd {W : Int} {ps : List Int} (hW : 1 ≤ W ∧ W ≤ 8) (h : ∀ x ∈ ps, 0 ≤ x ∧ x < 64) : ∀ k : Nat, -(8192 * (k : Int)) ≤ areaTo W ps k ∧ areaTo W ps k ≤ 8192 * (k : Int)
  | 0 => by simp [areaTo]
  | k + 1 => by
    have h1 := areaTo_bd hW h k
    have h2 := tri_bd hW (getD_64 h 0) (getD_64 h (k + 1)) (getD_64 h (k + 2))
    rw [areaTo]; omega
def turnsTo (W : Int) (ps : List Int) (P : Int → Bool) (k : Nat) : Nat := ((List.range k).filter fun i => P (triV W (ps.getD i 0) (ps.getD (i + 1) 0) (ps.getD (i + 2) 0))).length
theorem turnsTo_succ (W : Int) (ps : List Int) (P : Int → Bool) (k : Nat) : turnsTo W ps P (k + 1) = turnsTo W ps P k + (if P (triV W (ps.getD k 0) (ps.getD (k + 1) 0) (ps.getD (k + 2) 0)) then 1 else 0) := by
  rw [turnsTo, List.range_succ, List.filter_append, List.length_append, List.filter_cons, List.filter_nil]
  split <;> rfl
theorem turnsTo_le (W : Int) (ps : List Int) (P : Int → Bool) (k : Nat) : turnsTo W ps P k ≤ k := by
  rw [turnsTo]; have := List.length_filter_le (fun i => P (triV W (ps.getD i 0) (ps.getD (i + 1) 0) (ps.getD (i + 2) 0))) (List.range k); rw [List.length_range] at this; exact this
def posB (x : Int) : Bool := decide (0 < x)
def zeroB (x : Int) : Bool := decide (x = 0)
def negB (x : Int) : Bool := decide (x < 0)

end Go.Proofs.YtjlcaggnfocabaaGreat
