/-
  DERIVED: THE SHELF's CONTRACTS AT THIS DUMP, IN PLAIN WORDS (tools/lay-plain.mjs out of 'TryzShelf.lean', which tools/lay-shelf.mjs wrote): THE SAME DECLARATIONS UNDER THE SAME NAMES: 'import', 'namespace', 'open', 'def', 'theorem' AND NOTHING ELSE: no command of the shelf's: FOR A HAND-IN. Each laying: the table of numbers ('.._ren') and one theorem, a field a fact of the dump's own or the kernel's comparison; each contract: ONE APPLICATION.
  Contracts: which cells are there.
  append of one int onto a row of the call's own, as one law.
  Contracts: the cells that are there, in order.
  Contracts: cells in order, in the program; CellsOf, CountCells, HasCell, PlainBoard.
  Contracts: the spot of a numbered cell.
  Contracts: spots, turned and mirrored cells.
  Contracts: MirrorCell; TurnCell and MirrorCell in the model.
  Memory words: a spot's own block.
  Contracts: leaps on plain boards, by the sizes alone; plain boards.
  Contracts: whether a leaper leaps from one cell to another one.
-/
import Derived.Shelf.Small.Bits
import Derived.Shelf.Small.Wraps
import Derived.Shelf.Strconv.Itoa0
import Derived.Shelf.Sort.Plain
import Derived.Shelf.Bits.Mul64
import Derived.Shelf.Slices.Turned
import Derived.Ground.Names2Prog
import Derived.Shelf.Slices.SearchI
import Derived.Shelf.Slices.In.SortNone
import Derived.Shelf.Slices.Empties
import Derived.Test.YtcfibfbenccimaaGreatDoorProg
import Derived.Test.YtcfibfbenccimaaGreatDoorBunHTwoColours1
import Derived.Deep.RegionHeld3
import Derived.Deep.RegionWith
import Derived.Deep.DeepCutAuto
namespace Go.Proofs
open Go.Shelf
def Tryz.lays128_ren : Go.Shelf.Ren := ⟨fun | 128 => 123 | n => n, fun | 51 => 119 | 3 => 3 | 4 => 4 | 46 => 103 | 5 => 5 | 9 => 9 | n => n, fun | n => n⟩
theorem Tryz.lays128 : Go.Proofs.Lays.n128 Tryz.prog Tryz.lays128_ren := {
  mixed := by kernel_rfl
  f128 := Tryz.func123.trans (congrArg some (by kernel_rfl))
  t3 := Tryz.underlying3
  a3 := Tryz.isAgg3
  z3 := Tryz.sizeOf3
  v3 := Tryz.zeroValue3
  t4 := Tryz.underlying4
  a4 := Tryz.isAgg4
  z4 := Tryz.sizeOf4
  v4 := Tryz.zeroValue4
  t5 := Tryz.underlying5
  a5 := Tryz.isAgg5
  z5 := Tryz.sizeOf5
  v5 := Tryz.zeroValue5
  t9 := Tryz.underlying9
  a9 := Tryz.isAgg9
  z9 := Tryz.sizeOf9
  v9 := Tryz.zeroValue9
  t46 := Tryz.underlying103
  a46 := Tryz.isAgg103
  z46 := Tryz.sizeOf103
  v46 := Tryz.zeroValue103
  t51 := Tryz.underlying119
  a51 := Tryz.isAgg119
  z51 := Tryz.sizeOf119
  v51 := Tryz.zeroValue119 }
/-- bits.Len32: "Len32 returns the minimum number of bits required to represent x; the result is 0 for x == 0.": IT RETURNS 'Lib.bitLen x'; the world is as it was. ('h0', 'h1': x is a uint32.) (LAID: no walk: one application.) -/
theorem Tryz.bits_Len32 (x : Int) (w : World) (h0 : 0 ≤ x) (h1 : x ≤ 4294967295) :
    Calls Tryz.prog 123 #[.int .u32 x] w fun e w' => e = .returned (.int .i64 (Lib.bitLen x.toNat)) ∧ w' = w := Any.bits_Len32 Tryz.lays128 x w h0 h1
def Tryz.lays125_ren : Go.Shelf.Ren := ⟨fun | 125 => 100 | 128 => 123 | 129 => 124 | n => n, fun | 46 => 103 | 3 => 3 | 51 => 119 | 53 => 48 | 4 => 4 | 5 => 5 | 9 => 9 | n => n, fun | n => n⟩
theorem Tryz.lays125 : Go.Proofs.Lays.n125 Tryz.prog Tryz.lays125_ren := {
  mixed := by kernel_rfl
  f125 := Tryz.func100.trans (congrArg some (by kernel_rfl))
  f128 := Tryz.func123.trans (congrArg some (by kernel_rfl))
  f129 := Tryz.func124.trans (congrArg some (by kernel_rfl))
  t3 := Tryz.underlying3
  a3 := Tryz.isAgg3
  z3 := Tryz.sizeOf3
  v3 := Tryz.zeroValue3
  t4 := Tryz.underlying4
  a4 := Tryz.isAgg4
  z4 := Tryz.sizeOf4
  v4 := Tryz.zeroValue4
  t5 := Tryz.underlying5
  a5 := Tryz.isAgg5
  z5 := Tryz.sizeOf5
  v5 := Tryz.zeroValue5
  t9 := Tryz.underlying9
  a9 := Tryz.isAgg9
  z9 := Tryz.sizeOf9
  v9 := Tryz.zeroValue9
  t46 := Tryz.underlying103
  a46 := Tryz.isAgg103
  z46 := Tryz.sizeOf103
  v46 := Tryz.zeroValue103
  t51 := Tryz.underlying119
  a51 := Tryz.isAgg119
  z51 := Tryz.sizeOf119
  v51 := Tryz.zeroValue119
  t53 := Tryz.underlying48
  a53 := Tryz.isAgg48
  z53 := Tryz.sizeOf48
  v53 := Tryz.zeroValue48 }
/-- bits.Len: "Len returns the minimum number of bits required to represent x; the result is 0 for x == 0.": IT RETURNS 'Lib.bitLen x'; the world is as it was. (A uint has 64 bits in the model.) ITS CALLEE bits.Len64 IS MET BY ITS OWN CONTRACT OFF THE SHELF (lay that first). (LAID: no walk: one application.) -/
theorem Tryz.bits_Len (x : Int) (w : World) (h0 : 0 ≤ x) (h1 : x ≤ 18446744073709551615) :
    Calls Tryz.prog 100 #[.int .u64 x] w fun e w' => e = .returned (.int .i64 (Lib.bitLen x.toNat)) ∧ w' = w := Any.bits_Len Tryz.lays125 x w h0 h1
def Tryz.lays215_ren : Go.Shelf.Ren := ⟨fun | 215 => 127 | n => n, fun | 3 => 3 | 4 => 4 | n => n, fun | n => n⟩
theorem Tryz.lays215 : Go.Proofs.Lays.n215 Tryz.prog Tryz.lays215_ren := {
  mixed := by kernel_rfl
  f215 := Tryz.func127.trans (congrArg some (by kernel_rfl))
  t3 := Tryz.underlying3
  a3 := Tryz.isAgg3
  z3 := Tryz.sizeOf3
  v3 := Tryz.zeroValue3
  t4 := Tryz.underlying4
  a4 := Tryz.isAgg4
  z4 := Tryz.sizeOf4
  v4 := Tryz.zeroValue4 }
open Go.RowKit in
/-- cmp.isNaN at int: 'x != x': false. (LAID: no walk: one application.) -/
theorem Tryz.cmp_isNaN_int (x : Int) (w : World) :
    Calls Tryz.prog 127 #[.int .i64 x] w fun e w' => e = .returned (.bool false) ∧ w' = w := Any.cmp_isNaN_int Tryz.lays215 x w
def Tryz.lays122_ren : Go.Shelf.Ren := ⟨fun | 122 => 130 | 215 => 127 | n => n, fun | 3 => 3 | 4 => 4 | n => n, fun | n => n⟩
theorem Tryz.lays122 : Go.Proofs.Lays.n122 Tryz.prog Tryz.lays122_ren := {
  mixed := by kernel_rfl
  f122 := Tryz.func130.trans (congrArg some (by kernel_rfl))
  f215 := Tryz.func127.trans (congrArg some (by kernel_rfl))
  t3 := Tryz.underlying3
  a3 := Tryz.isAgg3
  z3 := Tryz.sizeOf3
  v3 := Tryz.zeroValue3
  t4 := Tryz.underlying4
  a4 := Tryz.isAgg4
  z4 := Tryz.sizeOf4
  v4 := Tryz.zeroValue4 }
open Go.RowKit in
/-- cmp.Compare at int: "Compare returns -1 if x is less than y, 0 if x equals y, +1 if x is greater than y.": IT RETURNS 'Lib.compareInt x y'; the world is as it was. (LAID: no walk: one application.) -/
theorem Tryz.cmp_Compare_int (x y : Int) (w : World) :
    Calls Tryz.prog 130 #[.int .i64 x, .int .i64 y] w fun e w' => e = .returned (.int .i64 (Lib.compareInt x y)) ∧ w' = w := Any.cmp_Compare_int Tryz.lays122 x y w
def Tryz.lays129_ren : Go.Shelf.Ren := ⟨fun | 129 => 124 | n => n, fun | 53 => 48 | 3 => 3 | 4 => 4 | 46 => 103 | 5 => 5 | 9 => 9 | n => n, fun | n => n⟩
theorem Tryz.lays129 : Go.Proofs.Lays.n129 Tryz.prog Tryz.lays129_ren := {
  mixed := by kernel_rfl
  f129 := Tryz.func124.trans (congrArg some (by kernel_rfl))
  t3 := Tryz.underlying3
  a3 := Tryz.isAgg3
  z3 := Tryz.sizeOf3
  v3 := Tryz.zeroValue3
  t4 := Tryz.underlying4
  a4 := Tryz.isAgg4
  z4 := Tryz.sizeOf4
  v4 := Tryz.zeroValue4
  t5 := Tryz.underlying5
  a5 := Tryz.isAgg5
  z5 := Tryz.sizeOf5
  v5 := Tryz.zeroValue5
  t9 := Tryz.underlying9
  a9 := Tryz.isAgg9
  z9 := Tryz.sizeOf9
  v9 := Tryz.zeroValue9
  t46 := Tryz.underlying103
  a46 := Tryz.isAgg103
  z46 := Tryz.sizeOf103
  v46 := Tryz.zeroValue103
  t53 := Tryz.underlying48
  a53 := Tryz.isAgg48
  z53 := Tryz.sizeOf48
  v53 := Tryz.zeroValue48 }
/-- bits.Len64: "Len64 returns the minimum number of bits required to represent x; the result is 0 for x == 0.": IT RETURNS 'Lib.bitLen x'; the world is as it was. ('h0', 'h1': x is a uint64.) (LAID: no walk: one application.) -/
theorem Tryz.bits_Len64 (x : Int) (w : World) (h0 : 0 ≤ x) (h1 : x ≤ 18446744073709551615) :
    Calls Tryz.prog 124 #[.int .u64 x] w fun e w' => e = .returned (.int .i64 (Lib.bitLen x.toNat)) ∧ w' = w := Any.bits_Len64 Tryz.lays129 x w h0 h1
def Tryz.lays189_ren : Go.Shelf.Ren := ⟨fun | 189 => 86 | 125 => 100 | 257 => 99 | 128 => 123 | 129 => 124 | 294 => 115 | 295 => 116 | 296 => 117 | 297 => 118 | 298 => 119 | 299 => 120 | 216 => 108 | 300 => 121 | 301 => 122 | 328 => 131 | 329 => 132 | 330 => 133 | 331 => 134 | 332 => 135 | 215 => 127 | 343 => 144 | n => n, fun | 28 => 22 | 3 => 3 | 46 => 103 | 0 => 0 | 51 => 119 | 53 => 48 | 4 => 4 | 183 => 134 | 182 => 133 | 131 => 108 | 5 => 5 | 9 => 9 | 218 => 142 | 222 => 146 | 228 => 153 | 229 => 154 | n => n, fun | n => n⟩
theorem Tryz.lays189 : Go.Proofs.Lays.n189 Tryz.prog Tryz.lays189_ren := {
  mixed := by kernel_rfl
  f125 := Tryz.func100.trans (congrArg some (by kernel_rfl))
  f128 := Tryz.func123.trans (congrArg some (by kernel_rfl))
  f129 := Tryz.func124.trans (congrArg some (by kernel_rfl))
  f189 := Tryz.func86.trans (congrArg some (by kernel_rfl))
  f215 := Tryz.func127.trans (congrArg some (by kernel_rfl))
  f216 := Tryz.func108.trans (congrArg some (by kernel_rfl))
  f257 := Tryz.func99.trans (congrArg some (by kernel_rfl))
  f294 := Tryz.func115.trans (congrArg some (by kernel_rfl))
  f295 := Tryz.func116.trans (congrArg some (by kernel_rfl))
  f296 := Tryz.func117.trans (congrArg some (by kernel_rfl))
  f297 := Tryz.func118.trans (congrArg some (by kernel_rfl))
  f298 := Tryz.func119.trans (congrArg some (by kernel_rfl))
  f299 := Tryz.func120.trans (congrArg some (by kernel_rfl))
  f300 := Tryz.func121.trans (congrArg some (by kernel_rfl))
  f301 := Tryz.func122.trans (congrArg some (by kernel_rfl))
  f328 := Tryz.func131.trans (congrArg some (by kernel_rfl))
  f329 := Tryz.func132.trans (congrArg some (by kernel_rfl))
  f330 := Tryz.func133.trans (congrArg some (by kernel_rfl))
  f331 := Tryz.func134.trans (congrArg some (by kernel_rfl))
  f332 := Tryz.func135.trans (congrArg some (by kernel_rfl))
  f343 := Tryz.func144.trans (congrArg some (by kernel_rfl))
  t0 := Tryz.underlying0
  a0 := Tryz.isAgg0
  z0 := Tryz.sizeOf0
  v0 := Tryz.zeroValue0
  t3 := Tryz.underlying3
  a3 := Tryz.isAgg3
  z3 := Tryz.sizeOf3
  v3 := Tryz.zeroValue3
  t4 := Tryz.underlying4
  a4 := Tryz.isAgg4
  z4 := Tryz.sizeOf4
  v4 := Tryz.zeroValue4
  t5 := Tryz.underlying5
  a5 := Tryz.isAgg5
  z5 := Tryz.sizeOf5
  v5 := Tryz.zeroValue5
  t9 := Tryz.underlying9
  a9 := Tryz.isAgg9
  z9 := Tryz.sizeOf9
  v9 := Tryz.zeroValue9
  t28 := Tryz.underlying22
  a28 := Tryz.isAgg22
  z28 := Tryz.sizeOf22
  v28 := Tryz.zeroValue22
  t46 := Tryz.underlying103
  a46 := Tryz.isAgg103
  z46 := Tryz.sizeOf103
  v46 := Tryz.zeroValue103
  t51 := Tryz.underlying119
  a51 := Tryz.isAgg119
  z51 := Tryz.sizeOf119
  v51 := Tryz.zeroValue119
  t53 := Tryz.underlying48
  a53 := Tryz.isAgg48
  z53 := Tryz.sizeOf48
  v53 := Tryz.zeroValue48
  t131 := Tryz.underlying108
  a131 := Tryz.isAgg108
  z131 := Tryz.sizeOf108
  v131 := Tryz.zeroValue108
  t182 := Tryz.underlying133
  a182 := Tryz.isAgg133
  z182 := Tryz.sizeOf133
  v182 := Tryz.zeroValue133
  t183 := Tryz.underlying134
  a183 := Tryz.isAgg134
  z183 := Tryz.sizeOf134
  v183 := Tryz.zeroValue134
  t218 := Tryz.underlying142
  a218 := Tryz.isAgg142
  z218 := Tryz.sizeOf142
  v218 := Tryz.zeroValue142
  t222 := Tryz.underlying146
  a222 := Tryz.isAgg146
  z222 := Tryz.sizeOf146
  v222 := Tryz.zeroValue146
  t228 := Tryz.underlying153
  a228 := Tryz.isAgg153
  z228 := Tryz.sizeOf153
  v228 := Tryz.zeroValue153
  t229 := Tryz.underlying154
  a229 := Tryz.isAgg154
  z229 := Tryz.sizeOf154
  v229 := Tryz.zeroValue154 }
open Go.Sort Go.RowKit in
theorem Tryz.slices_Sort_int (blk off cap : Nat) (zs : List Int) (w : World) (hH : Holds (Value.int .i64) w blk off zs.toArray) (hblk : blk < w.heap.size) (hsz : zs.length < 4611686018427387904) :
    Calls Tryz.prog 86 #[.slice (some ⟨blk, off, none⟩) zs.length cap] w fun e w' =>
      e = .returned (.tuple #[]) ∧ ∃ n os, w' = grow (putRow (Value.int .i64) (Sort.ahead w n) blk off (zs.mergeSort fun x y => decide (x ≤ y)).toArray) os := Any.slices_Sort_int Tryz.lays189 blk off cap zs w hH hblk hsz
def Tryz.lays264_ren : Go.Shelf.Ren := ⟨fun | 264 => 103 | n => n, fun | 53 => 48 | 46 => 103 | n => n, fun | n => n⟩
theorem Tryz.lays264 : Go.Proofs.Lays.n264 Tryz.prog Tryz.lays264_ren := {
  mixed := by kernel_rfl
  f264 := Tryz.func103.trans (congrArg some (by kernel_rfl))
  t46 := Tryz.underlying103
  a46 := Tryz.isAgg103
  z46 := Tryz.sizeOf103
  v46 := Tryz.zeroValue103
  t53 := Tryz.underlying48
  a53 := Tryz.isAgg48
  z53 := Tryz.sizeOf48
  v53 := Tryz.zeroValue48 }
open Go.RowKit Go.Lib in
theorem Tryz.bits_Mul64 (x y : Nat) (hx : x < 18446744073709551616) (hy : y < 18446744073709551616) (w : World) :
    Calls Tryz.prog 103 #[.int .u64 x, .int .u64 y] w fun e w' => e = .returned (.tuple #[.int .u64 ((x * y / 18446744073709551616 : Nat) : Int), .int .u64 ((x * y % 18446744073709551616 : Nat) : Int)]) ∧ w' = w := Any.bits_Mul64 Tryz.lays264 x y hx hy w
def Tryz.lays212_ren : Go.Shelf.Ren := ⟨fun | 212 => 90 | 263 => 102 | 264 => 103 | n => n, fun | 46 => 103 | 51 => 119 | 146 => 120 | 53 => 48 | 148 => 122 | n => n, fun | n => n⟩
theorem Tryz.lays212 : Go.Proofs.Lays.n212 Tryz.prog Tryz.lays212_ren := {
  mixed := by kernel_rfl
  f212 := Tryz.func90.trans (congrArg some (by kernel_rfl))
  f263 := Tryz.func102.trans (congrArg some (by kernel_rfl))
  f264 := Tryz.func103.trans (congrArg some (by kernel_rfl))
  t46 := Tryz.underlying103
  a46 := Tryz.isAgg103
  z46 := Tryz.sizeOf103
  v46 := Tryz.zeroValue103
  t51 := Tryz.underlying119
  a51 := Tryz.isAgg119
  z51 := Tryz.sizeOf119
  v51 := Tryz.zeroValue119
  t53 := Tryz.underlying48
  a53 := Tryz.isAgg48
  z53 := Tryz.sizeOf48
  v53 := Tryz.zeroValue48
  t146 := Tryz.underlying120
  a146 := Tryz.isAgg120
  z146 := Tryz.sizeOf120
  v146 := Tryz.zeroValue120
  t148 := Tryz.underlying122
  a148 := Tryz.isAgg122
  z148 := Tryz.sizeOf122
  v148 := Tryz.zeroValue122 }
open Go.RowKit Go.Lib in
/-- math/bits.Mul: "Mul returns the full-width product of x and y": on a machine of 64 bits: Mul64's. (LAID: no walk: one application.) -/
theorem Tryz.bits_Mul (x y : Nat) (hx : x < 18446744073709551616) (hy : y < 18446744073709551616) (w : World) :
    Calls Tryz.prog 90 #[.int .u64 x, .int .u64 y] w fun e w' => e = .returned (.tuple #[.int .u64 ((x * y / 18446744073709551616 : Nat) : Int), .int .u64 ((x * y % 18446744073709551616 : Nat) : Int)]) ∧ w' = w := Any.bits_Mul Tryz.lays212 x y hx hy w
def Tryz.lays113_ren : Go.Shelf.Ren := ⟨fun | 113 => 126 | n => n, fun | 28 => 22 | 3 => 3 | 4 => 4 | 9 => 9 | 20 => 20 | 0 => 0 | n => n, fun | n => n⟩
theorem Tryz.lays113 : Go.Proofs.Lays.n113 Tryz.prog Tryz.lays113_ren := {
  mixed := by kernel_rfl
  f113 := Tryz.func126.trans (congrArg some (by kernel_rfl))
  t0 := Tryz.underlying0
  a0 := Tryz.isAgg0
  z0 := Tryz.sizeOf0
  v0 := Tryz.zeroValue0
  t3 := Tryz.underlying3
  a3 := Tryz.isAgg3
  z3 := Tryz.sizeOf3
  v3 := Tryz.zeroValue3
  t4 := Tryz.underlying4
  a4 := Tryz.isAgg4
  z4 := Tryz.sizeOf4
  v4 := Tryz.zeroValue4
  t9 := Tryz.underlying9
  a9 := Tryz.isAgg9
  z9 := Tryz.sizeOf9
  v9 := Tryz.zeroValue9
  t20 := Tryz.underlying20
  a20 := Tryz.isAgg20
  z20 := Tryz.sizeOf20
  v20 := Tryz.zeroValue20
  t28 := Tryz.underlying22
  a28 := Tryz.isAgg22
  z28 := Tryz.sizeOf22
  v28 := Tryz.zeroValue22 }
open Go.Lib in
/-- slices.Max at []int: "Max returns the maximal value in x. It panics if x is empty.": OF A SLICE THAT IS NOT EMPTY IT RETURNS 'Lib.maxOf (the elements)'; the world is as it was. (Of an empty one it panics: no contract here.) (LAID: no walk: one application.) -/
theorem Tryz.slices_Max_int (b off n c : Nat) (zs : List Int) (w : World) (hn : 0 < n) (hz : n ≤ zs.length) (hbig : n ≤ 9223372036854775807) (hc : ∀ j, j < zs.length → w.cell? ⟨b, off + j, none⟩ = some (.int .i64 (zs.getD j 0))) :
    Calls Tryz.prog 126 #[.slice (some ⟨b, off, none⟩) n c] w fun e w' => e = .returned (.int .i64 (Lib.maxOf (zs.take n))) ∧ w' = w := Any.slices_Max_int Tryz.lays113 b off n c zs w hn hz hbig hc
def Tryz.laysNm237_ren : Go.Shelf.Ren := ⟨fun | 37 => 127 | n => n, fun | 3 => 3 | 4 => 4 | n => n, fun | n => n⟩
theorem Tryz.laysNm237 : Go.Proofs.Lays2.n37 Tryz.prog Tryz.laysNm237_ren := {
  mixed := by kernel_rfl
  f37 := Tryz.func127.trans (congrArg some (by kernel_rfl))
  t3 := Tryz.underlying3
  a3 := Tryz.isAgg3
  z3 := Tryz.sizeOf3
  v3 := Tryz.zeroValue3
  t4 := Tryz.underlying4
  a4 := Tryz.isAgg4
  z4 := Tryz.sizeOf4
  v4 := Tryz.zeroValue4 }
open Go.RowKit Go.Lib in
/-- cmp.isNaN[int]: 'x != x': false. (LAID: no walk: one application.) -/
theorem Tryz.cmp_isNaN_int2 (x : Int) (w : World) :
    Calls Tryz.prog 127 #[.int .i64 x] w fun e w' => e = .returned (.bool false) ∧ w' = w := Any.cmp_isNaN_int2 Tryz.laysNm237 x w
def Tryz.laysNm232_ren : Go.Shelf.Ren := ⟨fun | 32 => 109 | n => n, fun | 3 => 3 | 4 => 4 | n => n, fun | n => n⟩
theorem Tryz.laysNm232 : Go.Proofs.Lays2.n32 Tryz.prog Tryz.laysNm232_ren := {
  mixed := by kernel_rfl
  f32 := Tryz.func109.trans (congrArg some (by kernel_rfl))
  t3 := Tryz.underlying3
  a3 := Tryz.isAgg3
  z3 := Tryz.sizeOf3
  v3 := Tryz.zeroValue3
  t4 := Tryz.underlying4
  a4 := Tryz.isAgg4
  z4 := Tryz.sizeOf4
  v4 := Tryz.zeroValue4 }
open Go.RowKit Go.Lib in
/-- slices.isNaN[int]: 'x != x': false. (LAID: no walk: one application.) -/
theorem Tryz.slices_isNaN_int2 (x : Int) (w : World) :
    Calls Tryz.prog 109 #[.int .i64 x] w fun e w' => e = .returned (.bool false) ∧ w' = w := Any.slices_isNaN_int2 Tryz.laysNm232 x w
def Tryz.laysNm231_ren : Go.Shelf.Ren := ⟨fun | 31 => 108 | 37 => 127 | n => n, fun | 3 => 3 | 4 => 4 | n => n, fun | n => n⟩
theorem Tryz.laysNm231 : Go.Proofs.Lays2.n31 Tryz.prog Tryz.laysNm231_ren := {
  mixed := by kernel_rfl
  f31 := Tryz.func108.trans (congrArg some (by kernel_rfl))
  f37 := Tryz.func127.trans (congrArg some (by kernel_rfl))
  t3 := Tryz.underlying3
  a3 := Tryz.isAgg3
  z3 := Tryz.sizeOf3
  v3 := Tryz.zeroValue3
  t4 := Tryz.underlying4
  a4 := Tryz.isAgg4
  z4 := Tryz.sizeOf4
  v4 := Tryz.zeroValue4 }
open Go.RowKit Go.Lib in
/-- cmp.Less[int]: "Less reports whether x is less than y.": 'x < y'; the world is as it was. (LAID: no walk: one application.) -/
theorem Tryz.cmp_Less_int2 (x y : Int) (w : World) :
    Calls Tryz.prog 108 #[.int .i64 x, .int .i64 y] w fun e w' => e = .returned (.bool (decide (x < y))) ∧ w' = w := Any.cmp_Less_int2 Tryz.laysNm231 x y w
def Tryz.laysNm225_ren : Go.Shelf.Ren := ⟨fun | 25 => 94 | 31 => 108 | 32 => 109 | 37 => 127 | n => n, fun | 22 => 22 | 3 => 3 | 4 => 4 | 40 => 103 | 0 => 0 | n => n, fun | n => n⟩
theorem Tryz.laysNm225 : Go.Proofs.Lays2.n25 Tryz.prog Tryz.laysNm225_ren := {
  mixed := by kernel_rfl
  f25 := Tryz.func94.trans (congrArg some (by kernel_rfl))
  f31 := Tryz.func108.trans (congrArg some (by kernel_rfl))
  f32 := Tryz.func109.trans (congrArg some (by kernel_rfl))
  f37 := Tryz.func127.trans (congrArg some (by kernel_rfl))
  t0 := Tryz.underlying0
  a0 := Tryz.isAgg0
  z0 := Tryz.sizeOf0
  v0 := Tryz.zeroValue0
  t3 := Tryz.underlying3
  a3 := Tryz.isAgg3
  z3 := Tryz.sizeOf3
  v3 := Tryz.zeroValue3
  t4 := Tryz.underlying4
  a4 := Tryz.isAgg4
  z4 := Tryz.sizeOf4
  v4 := Tryz.zeroValue4
  t22 := Tryz.underlying22
  a22 := Tryz.isAgg22
  z22 := Tryz.sizeOf22
  v22 := Tryz.zeroValue22
  t40 := Tryz.underlying103
  a40 := Tryz.isAgg103
  z40 := Tryz.sizeOf103
  v40 := Tryz.zeroValue103 }
open Go.RowKit Go.Lib in
/-- slices.BinarySearch at []int: "BinarySearch searches for target in a sorted slice and returns the earliest position where target is found, or the position where target would appear in the sort order; it also returns a bool saying whether the target is really found in the slice. The slice must be sorted in increasing order.": OF A SORTED SLICE IT RETURNS how many elements are less than the target, and whether the target is among the elements; the world is as it was but for the count of draws. 'zs': what the cells behind the slice's address hold; 'zs.take n': its elements. (Of a slice that is not sorted: no contract here.) (LAID: no walk: one application.) -/
theorem Tryz.slices_BinarySearch_int (b off n c : Nat) (zs : List Int) (x : Int) (w : World) (hz : n ≤ zs.length) (hbig : n < 4611686018427387904) (hc : ∀ j, j < zs.length → w.cell? ⟨b, off + j, none⟩ = some (.int .i64 (zs.getD j 0))) (hs : (zs.take n).Pairwise (· ≤ ·)) :
    Calls Tryz.prog 94 #[.slice (some ⟨b, off, none⟩) n c, .int .i64 x] w fun e w' => e = .returned (.tuple #[.int .i64 ((zs.take n).countP (· < x) : Nat), .bool ((zs.take n).contains x)]) ∧ ∃ q, w' = w.drewN q := Any.slices_BinarySearch_int Tryz.laysNm225 b off n c zs x w hz hbig hc hs
open Go.RowKit Go.Sort in
/-- .. and plain. (LAID: no walk: one application.) -/
theorem Tryz.slices_Sort_int_none (p : Option Addr) (cap : Nat) (w : World) :
    Calls Tryz.prog 86 #[.slice p 0 cap] w fun e w' => e = .returned (.tuple #[]) ∧ w' = w := Any.slices_Sort_int_none Tryz.lays189 p cap w
open Go.RowKit Go.Lib in
/-- slices.BinarySearch at []int of no element: position 0, not found; the world is as it was. (LAID: no walk: one application.) -/
theorem Tryz.slices_BinarySearch_int_empty (a : Option Addr) (c : Nat) (x : Int) (w : World) :
    Calls Tryz.prog 94 #[.slice a 0 c, .int .i64 x] w fun e w' => e = .returned (.tuple #[.int .i64 0, .bool false]) ∧ w' = w := Any.slices_BinarySearch_int_empty Tryz.laysNm225 a c x w
end Go.Proofs

namespace Go.Proofs.YtcfibfbenccimaaGreatDoor
open Go.RowKit

set_option maxHeartbeats 400000 in
theorem l1Has_any (A : Option Addr) (n c : Nat) (q : Int) (xs : List Int) (w : World) (ha : Rd w A n xs) :
    Calls Tryz.prog 45 #[.slice A n c, .int .i64 q] w fun e w' => e = .returned (.bool (xs.contains q)) ∧ Below w.heap.size w w' := by
  have h3 := ha.2.1
  have H1 := Lib.hid ha.1
  go_enter Tryz.func45, Tryz.ntmps45
  go_wp2
  go_loopw [9] (fun i wr => ∃ k : Nat, k ≤ n ∧ i = .int .i64 k ∧ xs.contains q = (xs.drop k).contains q ∧ Below w.heap.size w wr) (fun i _ => n - (intOf i).toNat)
  case atStart => exact ⟨0, Nat.zero_le _, rfl, rfl, Below.refl _ _⟩
  case round =>
    obtain ⟨k, hk, rfl, hr, hbw⟩ := hrel
    have HR := Lib.hid hr
    clear hr
    by_cases hlt : k < n
    · obtain ⟨b1, o1, x, rfl, hl1, hx, hc1⟩ := (ha.keep hbw).at_ hlt
      have HX := Lib.hid hx
      clear hx
      by_cases hin : x = q
      · subst hin
        go_wp2
        go_ret
        exact ⟨ret_bool (by rw [HR.out, has_hit HX.out]), hbw⟩
      · have hne : (x == q) = false := by simpa using hin
        go_wp2
        go_roundw
        case rel => exact ⟨k + 1, by omega, by go_num, by rw [HR.out, has_step HX.out hin], hbw⟩
        case measure => simp [intOf]; omega
    · go_wp2
      go_ret
      exact ⟨ret_bool (by rw [HR.out, List.drop_of_length_le (by have := H1.out; omega)]; rfl), hbw⟩

/-- slices.BinarySearch of a sorted list: whether the target is among the elements. -/
theorem search_any (A : Option Addr) (n c : Nat) (q : Int) (xs : List Int) (w : World) (ha : Rd w A n xs) (hn : n < 4611686018427387904) (hs : xs.Pairwise (· < ·)) :
    Calls Tryz.prog 94 #[.slice A n c, .int .i64 q] w fun e w' => ∃ p : Nat, e = .returned (.tuple #[.int .i64 p, .bool (xs.contains q)]) ∧ Below w.heap.size w w' := by
  by_cases h0 : n = 0
  · subst h0
    obtain rfl : xs = [] := List.eq_nil_of_length_eq_zero ha.1
    exact (Tryz.slices_BinarySearch_int_empty A c q w).mono fun e w' ⟨he, hw⟩ => ⟨0, he, by rw [hw]; exact Below.refl _ _⟩
  · obtain ⟨b, off, x, rfl, _, _, _⟩ := ha.at_ (k := 0) (by omega)
    have hl := ha.1
    refine (Tryz.slices_BinarySearch_int b off n c xs q w (by omega) hn (fun j hj => ?_) ?_).mono fun e w' ⟨he, m, hw⟩ => ⟨(xs.take n).countP (· < q), by rw [he, List.take_of_length_le (by omega)], by rw [hw]; exact below_drewN (Below.refl _ _) _⟩
    · obtain ⟨b', off', y, hA, _, hy, hc⟩ := ha.at_ (k := j) (by omega)
      injection hA with hA
      injection hA with e1 e2 _
      subst e1 e2
      rw [hc, List.getD_eq_getElem?_getD, hy]; rfl
    · exact (hs.imp (fun h => Int.le_of_lt h)).sublist (List.take_sublist _ _)

set_option maxHeartbeats 400000 in
theorem boHas_any (W H : Int) (A : Option Addr) (n c : Nat) (q : Int) (xs : List Int) (w : World) (ha : Rd w A n xs) (hN : 1 ≤ W * H ∧ W * H ≤ 64) :
    Calls Tryz.prog 54 #[brd W H A n c, .int .i64 q] w fun e w' => e = .returned (.bool (hasB W H xs q)) ∧ Below w.heap.size w w' := by
  obtain ⟨hN1, hN2⟩ := hN
  by_cases hin : inB q 0 (W * H - 1) = true
  · go_enter Tryz.func54, Tryz.ntmps54
    go_wp2_with (first | (go_at_call 55; refine (l1In_any _ _ _ _).mono ?_; rintro e w1 ⟨rfl, rfl⟩) | (go_at_call 45; refine (l1Has_any _ _ _ _ _ _ (ha.alloc _)).mono ?_; rintro e w1 ⟨rfl, hb1⟩))
    go_ret
    exact ⟨ret_bool (by rw [Bool.eq_iff_iff, hasB_iff]; have := inB_iff.1 hin; simp; omega), below_next (below_new (Below.refl _ _) _) hb1⟩
  · have hin' : inB q 0 (W * H - 1) = false := by simpa using hin
    clear hin
    go_enter Tryz.func54, Tryz.ntmps54
    go_wp2_with (first | (go_at_call 55; refine (l1In_any _ _ _ _).mono ?_; rintro e w1 ⟨rfl, rfl⟩))
    go_ret
    exact ⟨ret_bool (by symm; rw [Bool.eq_false_iff]; intro h; have := hasB_iff.1 h; have := inB_false.1 hin'; omega), below_new (Below.refl _ _) _⟩

set_option maxHeartbeats 400000 in
theorem isThere_any (W H : Int) (A : Option Addr) (n c : Nat) (q : Int) (xs : List Int) (w : World) (ha : Rd w A n xs) (hg : goodB W H xs = true) :
    Calls Tryz.prog 81 #[brd W H A n c, .int .i64 q] w fun e w' => e = .returned (.bool (hasB W H xs q)) ∧ Below w.heap.size w w' := by
  obtain ⟨hW, hH, hlen, hri⟩ := goodB_iff.1 hg
  have HG := Lib.hid hri
  obtain ⟨hN1, hN2⟩ := cells_le hW hH
  have hn : n < 4611686018427387904 := by have := ha.1; omega
  clear hri hg hlen hW hH
  by_cases hq0 : q < 0
  · go_enter Tryz.func81, Tryz.ntmps81
    go_wp2
    go_ret
    exact ⟨ret_bool (by symm; rw [Bool.eq_false_iff]; intro h; have := hasB_iff.1 h; omega), below_new (Below.refl _ _) _⟩
  · by_cases hq1 : W * H ≤ q
    · go_enter Tryz.func81, Tryz.ntmps81
      go_wp2
      go_ret
      exact ⟨ret_bool (by symm; rw [Bool.eq_false_iff]; intro h; have := hasB_iff.1 h; omega), below_new (Below.refl _ _) _⟩
    · go_enter Tryz.func81, Tryz.ntmps81
      go_wp2_with fail
      refine (search_any A n c q xs _ (ha.alloc _) hn (risesB_pairwise HG.out)).mono ?_
      rintro e w1 ⟨p, rfl, hb1⟩
      go_wp2
      go_ret
      exact ⟨ret_bool (by rw [Bool.eq_iff_iff, hasB_iff]; simp; omega), below_next (below_new (Below.refl _ _) _) hb1⟩

end Go.Proofs.YtcfibfbenccimaaGreatDoor

namespace Go.Proofs.YtcfibfbenccimaaGreatDoor
open Go.RowKit

theorem below_box {w w' : World} {o : Obj} (h : Below (w.alloc o).heap.size (w.alloc o) w') : Below w.heap.size w w' := (below_new (Below.refl _ _) o).trans (h.mono (by simp))
theorem newbox {w w' : World} {cs : Array Value} {t : TypeId} (h : Below (w.alloc (.cells cs t)).heap.size (w.alloc (.cells cs t)) w') (i : Nat) : w'.cell? ⟨w.heap.size, i, none⟩ = cs[i]? :=
  box_cell (by simpa using h) i
theorem newbox_lt {w w' : World} {o : Obj} (h : Below (w.alloc o).heap.size (w.alloc o) w') : w.heap.size < w'.heap.size := box_size h
theorem cell_keep {w w' : World} {b i : Nat} {v : Value} (h : w.cell? ⟨b, i, none⟩ = some v) (lt : b < w.heap.size) (hb : Below w.heap.size w w') : w'.cell? ⟨b, i, none⟩ = some v := (hb.cell (p := ⟨b, i, none⟩) lt).trans h
theorem lt_keep {w w' : World} {b : Nat} (lt : b < w.heap.size) (hb : Below w.heap.size w w') : b < w'.heap.size := Nat.lt_of_lt_of_le lt hb.size

theorem below_undrew {w w' : World} (h : Below w.drew.heap.size w.drew w') : Below w.heap.size w w' := ⟨h.os, h.tape, h.output, h.size, h.block⟩
theorem Rd.drew1 {w : World} {A : Option Addr} {n : Nat} {xs : List Int} (h : Rd w A n xs) : Rd w.drew A n xs := h
theorem OwnI.drew1 {E : TypeId} {w : World} {lo : Nat} {A : Option Addr} {n c : Nat} {xs : List Int} (h : OwnI E w lo A n c xs) : OwnI E w.drew lo A n c xs := h

theorem own_form {E : TypeId} {w : World} {lo n : Nat} {v : Value} {xs : List Int} (h : w.ownsRow lo E 1 v n (xs.map (Value.int .i64))) : ∃ A c, v = .slice A n c ∧ OwnI E w lo A n c xs := by
  have h2 := h.2
  rcases h2 with ⟨rfl, rfl⟩ | ⟨g, cap, cur, rfl, _⟩
  · exact ⟨none, 0, rfl, h⟩
  · exact ⟨_, cap, rfl, h⟩

theorem wpList_app1 {P : Program} {w : World} {ops : Array Oper} {rest : List Oper} {o : Oper} {a : Act} {Q : Exit → Act → World → Prop} (hgd : o.guard = none) (s x : Operand) (T E : TypeId)
    (ho : o.op = .call { callee := .builtin .append, args := #[s, x], argTypes := #[T, T] }) (i0 : TypeInfo)
    (hT : P.underlying T = some (.slice E)) (hi : P.info? E = some i0) (hz0 : i0.zero = some (.int .i64 0)) (hz1 : i0.size = 1) (hz2 : i0.bytes = 8)
    (lo : Nat) (A : Option Addr) (n c : Nat) (xs : List Int) (q : Int) (hs : a.eval s = .slice A n c) (hown : OwnI E w lo A n c xs) (hx : a.eval x = .slice (some ⟨w.heap.size, 0, none⟩) 1 1)
    (hn : n ≤ 1000000) (hlo : lo ≤ w.heap.size)
    (h : ∀ A' c' w', OwnI E w' lo A' (n + 1) c' (xs ++ [q]) → Below lo w w' → wpList P ops Q rest (a.put o.dst (.slice A' (n + 1) c')) w') :
    wpList P ops Q (o :: rest) a (w.alloc (.cells #[.int .i64 q] E)) := by
  refine wpList_append_own (w.alloc (.cells #[.int .i64 q] E)) hgd s x T ho lo E i0 (.int .i64 0) 1 8 hT hi hz0 hz1 hz2 rfl (by decide) (.slice A n c) n (xs.map (Value.int .i64)) hs (World.ownsRow.alloc hown _)
    ⟨w.heap.size, 0, none⟩ 1 1 [.int .i64 q] hx rfl ?_ ?_ (by unfold maxLen; omega) (by omega) (by simp; omega) ?_
  · intro j u hj
    match j, hj with
    | 0, hj =>
      simp at hj; subst hj
      exact cell_of_row (w.alloc (.cells #[.int .i64 q] E)) w.heap.size 0 #[.int .i64 q] E (0, 0) (heap_alloc_new w _)
  · intro u hu; simp at hu; subst hu; rfl
  · intro v' w' hown' hgrow _
    have e : xs.map (Value.int .i64) ++ [.int .i64 q] = (xs ++ [q]).map (Value.int .i64) := by simp
    rw [e] at hown'
    obtain ⟨A', c', rfl, hO⟩ := own_form hown'
    refine h A' c' w' hO ?_
    have hb : Below lo w (w.alloc (.cells #[.int .i64 q] E)) := (Below.refl _ _).alloc hlo _
    refine hb.grown hgrow (by simp; omega) (fun k hk => ?_)
    exact (World.ownsRow.lt hown k hk).1

end Go.Proofs.YtcfibfbenccimaaGreatDoor

namespace Go.Proofs.YtcfibfbenccimaaGreatDoor
open Go.RowKit

set_option maxHeartbeats 800000 in
theorem boCells_any (W H : Int) (A : Option Addr) (n c : Nat) (xs : List Int) (w : World) (ha : Rd w A n xs) (hN : 1 ≤ W * H ∧ W * H ≤ 64) :
    Calls Tryz.prog 43 #[brd W H A n c] w fun e w' => ∃ A' n' c', e = .returned (.slice A' n' c') ∧ OwnI 3 w' w.heap.size A' n' c' (cellsL W H xs) ∧ Below w.heap.size w w' := by
  have hN' := hN
  obtain ⟨hN1, hN2⟩ := hN
  obtain ⟨i0, hi, hz0, hz1, hz2⟩ := info_parts infoI
  have HI := Lib.hid hi; have HZ0 := Lib.hid hz0; have HZ1 := Lib.hid hz1; have HZ2 := Lib.hid hz2
  clear hi hz0 hz1 hz2
  go_enter Tryz.func43, Tryz.ntmps43
  go_wp2
  go_loopw [3, 4] (fun v i wr => ∃ (k n' c' : Nat) (A' : Option Addr), (k : Int) ≤ W * H ∧ i = .int .i64 k ∧ v = .slice A' n' c' ∧ OwnI 3 wr (w.heap.size + 1) A' n' c' (cellsTo W H xs k) ∧ Below (w.heap.size + 1) (w.alloc (.cells #[.int .i64 W, .int .i64 H, .slice A n c] 30)) wr) (fun _ i _ => (W * H).toNat - (intOf i).toNat)
  case atStart => exact ⟨0, 0, 0, none, by omega, rfl, rfl, OwnI.none_ _ _ _, Below.refl _ _⟩
  case round =>
    obtain ⟨k, n', c', A', hk, rfl, rfl, hown, hbw⟩ := hrel
    have hb0 := box_cell hbw 0; have hb1 := box_cell hbw 1; have hb2 := box_cell hbw 2
    simp only [List.getElem?_toArray, List.getElem?_cons_zero, List.getElem?_cons_succ] at hb0 hb1 hb2
    have hsz := box_size hbw
    by_cases hlt : (k : Int) < W * H
    · by_cases hh : hasB W H xs k = true
      · have hn' : n' ≤ 64 := by have := cellsTo_len (W := W) (H := H) (hs := xs) k; have := hown.len; omega
        have HO := Lib.hid hown; have HB := Lib.hid hbw
        clear hown hbw
        go_wp2_with fail
        refine (boHas_any _ _ _ _ _ _ _ _ (ha.keep (box_below HB.out)) hN').mono ?_
        rintro e w1 ⟨rfl, hbh⟩
        have HO1 := Lib.hid (HO.out.keep hbh)
        have HB1 := Lib.hid (HB.out.trans (hbh.mono (by omega)))
        clear hbh HO HB
        go_wp2_with (at_builtin; refine wpList_app1 rfl (.tmp 17) (.tmp 19) 22 3 rfl i0 Tryz.underlying22 HI.out HZ0.out HZ1.out HZ2.out (w.heap.size + 1) A' n' c' (cellsTo W H xs k) (k : Int) rfl HO1.out rfl (by omega) (by have := box_size HB1.out; omega) ?_; intro A2 c2 w2 hown2 hb2')
        have HO2 := Lib.hid hown2; have HB2 := Lib.hid (HB1.out.trans hb2')
        clear hown2 hb2'
        go_wp2
        go_roundw
        case rel => exact ⟨k + 1, n' + 1, c2, A2, by omega, by go_num, rfl, by rw [cellsTo_yes hh]; exact HO2.out, HB2.out⟩
        case measure => simp [intOf]; omega
      · have hh' : hasB W H xs k = false := by simpa using hh
        clear hh
        have HO := Lib.hid hown; have HB := Lib.hid hbw
        clear hown hbw
        go_wp2_with fail
        refine (boHas_any _ _ _ _ _ _ _ _ (ha.keep (box_below HB.out)) hN').mono ?_
        rintro e w1 ⟨rfl, hbh⟩
        have HO1 := Lib.hid (HO.out.keep hbh)
        have HB1 := Lib.hid (HB.out.trans (hbh.mono (by omega)))
        clear hbh HO HB
        go_wp2
        go_roundw
        case rel => exact ⟨k + 1, n', c', A', by omega, by go_num, rfl, by rw [cellsTo_no hh']; exact HO1.out, HB1.out⟩
        case measure => simp [intOf]; omega
    · go_wp2
      go_ret
      have e : (W * H).toNat = k := by omega
      exact ⟨A', n', c', rfl, by rw [cellsL, e]; exact hown.lower (by omega), box_below hbw⟩

end Go.Proofs.YtcfibfbenccimaaGreatDoor

namespace Go.Proofs.YtcfibfbenccimaaGreatDoor
open Go.RowKit

set_option maxHeartbeats 800000 in
theorem cellsThere_any (W H : Int) (A : Option Addr) (n c : Nat) (xs : List Int) (w : World) (ha : Rd w A n xs) (hg : goodB W H xs = true) :
    Calls Tryz.prog 60 #[brd W H A n c] w fun e w' => ∃ A' n' c', e = .returned (.slice A' n' c') ∧ OwnI 3 w' w.heap.size A' n' c' (cellsL W H xs) ∧ Below w.heap.size w w' := by
  obtain ⟨hW, hH, _, _⟩ := goodB_iff.1 hg
  obtain ⟨hN1, hN2⟩ := cells_le hW hH
  have HG := Lib.hid hg
  clear hg hW hH
  obtain ⟨i0, hi, hz0, hz1, hz2⟩ := info_parts infoI
  have HI := Lib.hid hi; have HZ0 := Lib.hid hz0; have HZ1 := Lib.hid hz1; have HZ2 := Lib.hid hz2
  clear hi hz0 hz1 hz2
  go_enter Tryz.func60, Tryz.ntmps60
  go_wp2
  go_loopw [3, 10] (fun v i wr => ∃ (k n' c' : Nat) (A' : Option Addr), (k : Int) ≤ W * H ∧ i = .int .i64 k ∧ v = .slice A' n' c' ∧ OwnI 3 wr (w.heap.size + 1) A' n' c' (cellsTo W H xs k) ∧ Below (w.heap.size + 1) (w.alloc (.cells #[.int .i64 W, .int .i64 H, .slice A n c] 30)) wr) (fun _ i _ => (W * H).toNat - (intOf i).toNat)
  case atStart => exact ⟨0, 0, 0, none, by omega, rfl, rfl, OwnI.none_ _ _ _, Below.refl _ _⟩
  case round =>
    obtain ⟨k, n', c', A', hk, rfl, rfl, hown, hbw⟩ := hrel
    have hb0 := box_cell hbw 0; have hb1 := box_cell hbw 1; have hb2 := box_cell hbw 2
    simp only [List.getElem?_toArray, List.getElem?_cons_zero, List.getElem?_cons_succ] at hb0 hb1 hb2
    have hsz := box_size hbw
    by_cases hlt : (k : Int) < W * H
    · by_cases hh : hasB W H xs k = true
      · have hn' : n' ≤ 64 := by have := cellsTo_len (W := W) (H := H) (hs := xs) k; have := hown.len; omega
        have HO := Lib.hid hown; have HB := Lib.hid hbw
        clear hown hbw
        go_wp2_with fail
        refine (isThere_any _ _ _ _ _ _ _ _ (ha.keep (box_below HB.out)) HG.out).mono ?_
        rintro e w1 ⟨rfl, hbh⟩
        have HO1 := Lib.hid (HO.out.keep hbh)
        have HB1 := Lib.hid (HB.out.trans (hbh.mono (by omega)))
        clear hbh HO HB
        go_wp2_with (at_builtin; refine wpList_app1 rfl (.tmp 16) (.tmp 18) 22 3 rfl i0 Tryz.underlying22 HI.out HZ0.out HZ1.out HZ2.out (w.heap.size + 1) A' n' c' (cellsTo W H xs k) (k : Int) rfl HO1.out rfl (by omega) (by have := box_size HB1.out; omega) ?_; intro A2 c2 w2 hown2 hb2')
        have HO2 := Lib.hid hown2; have HB2 := Lib.hid (HB1.out.trans hb2')
        clear hown2 hb2'
        go_wp2
        go_roundw
        case rel => exact ⟨k + 1, n' + 1, c2, A2, by omega, by go_num, rfl, by rw [cellsTo_yes hh]; exact HO2.out, HB2.out⟩
        case measure => simp [intOf]; omega
      · have hh' : hasB W H xs k = false := by simpa using hh
        clear hh
        have HO := Lib.hid hown; have HB := Lib.hid hbw
        clear hown hbw
        go_wp2_with fail
        refine (isThere_any _ _ _ _ _ _ _ _ (ha.keep (box_below HB.out)) HG.out).mono ?_
        rintro e w1 ⟨rfl, hbh⟩
        have HO1 := Lib.hid (HO.out.keep hbh)
        have HB1 := Lib.hid (HB.out.trans (hbh.mono (by omega)))
        clear hbh HO HB
        go_wp2
        go_roundw
        case rel => exact ⟨k + 1, n', c', A', by omega, by go_num, rfl, by rw [cellsTo_no hh']; exact HO1.out, HB1.out⟩
        case measure => simp [intOf]; omega
    · go_wp2
      go_ret
      have e : (W * H).toNat = k := by omega
      exact ⟨A', n', c', rfl, by rw [cellsL, e]; exact hown.lower (by omega), box_below hbw⟩


def cellsV (W H : Int) (xs : List Int) : List Int := if goodB W H xs then cellsL W H xs else []
def countV (W H : Int) (xs : List Int) : Int := if goodB W H xs then (cellsL W H xs).length else 0
def hasV (W H : Int) (xs : List Int) (q : Int) : Bool := goodB W H xs && hasB W H xs q

end Go.Proofs.YtcfibfbenccimaaGreatDoor

namespace Go.Proofs.YtcfibfbenccimaaGreatDoor
open Go.RowKit

set_option maxHeartbeats 400000 in
theorem numbered_any (q W : Int) (w : World) (hW : 1 ≤ W ∧ W ≤ 12) (hq : 0 ≤ q ∧ q ≤ 144) :
    Calls Tryz.prog 113 #[.int .i64 q, .int .i64 W] w fun e w' => e = .returned (lpr (q % W) (q / W)) ∧ Below w.heap.size w w' := by
  obtain ⟨hW1, hW2⟩ := hW
  obtain ⟨hq1, hq2⟩ := hq
  go_enter Tryz.func113, Tryz.ntmps113
  go_wp2
  go_region
  all_goals go_wp2
  exact bodyPost_ret (v := lpr (q % W) (q / W)) (by simp [results, Tryz.results113, go_sem]) rfl ⟨rfl, (by repeat (first | exact Below.refl _ _ | refine Below.setCell ?_ (by simp) _ | refine Below.drew ?_ | refine below_drewN ?_ _ | refine below_new ?_ _))⟩

set_option maxHeartbeats 400000 in
theorem numbered_exact (q W : Int) (w : World) (hW : 1 ≤ W ∧ W ≤ 8) (hq : 0 ≤ q ∧ q ≤ 64) :
    Calls Tryz.prog 113 #[.int .i64 q, .int .i64 W] w fun e w' => e = .returned (lpr (q % W) (q / W)) ∧ ∃ m, w' = (w.alloc (.cells #[.int .i64 (q % W), .int .i64 (q / W)] 94)).drewN m := by
  obtain ⟨hW1, hW2⟩ := hW
  obtain ⟨hq1, hq2⟩ := hq
  go_enter Tryz.func113, Tryz.ntmps113
  go_wp2
  go_region
  all_goals go_wp2
  exact bodyPost_ret (v := lpr (q % W) (q / W)) (by simp [results, Tryz.results113, go_sem]) rfl ⟨rfl, 1, rfl⟩

end Go.Proofs.YtcfibfbenccimaaGreatDoor

namespace Go.Proofs.YtcfibfbenccimaaGreatDoor
open Go.RowKit

theorem mod_bd {W c : Int} (hW : 1 ≤ W ∧ W ≤ 8) : 0 ≤ c % W ∧ c % W < W ∧ c % W ≤ 7 := by
  have h1 := Int.emod_nonneg c (b := W) (by omega)
  have h2 := Int.emod_lt_of_pos c (b := W) (by omega)
  omega
theorem div_bd {W H c : Int} (hW : 1 ≤ W ∧ W ≤ 8) (hc : 0 ≤ c ∧ c < W * H) : 0 ≤ c / W ∧ c / W < H := by
  constructor
  · exact Int.ediv_nonneg hc.1 (by omega)
  · exact Int.ediv_lt_of_lt_mul (by omega) (by rw [Int.mul_comm]; exact hc.2)
theorem mulN {x y : Int} (hx : 0 ≤ x ∧ x ≤ 8) (hy : 0 ≤ y ∧ y ≤ 8) : 0 ≤ x * y ∧ x * y ≤ 64 :=
  ⟨Int.mul_nonneg hx.1 hy.1, by have := Int.mul_le_mul hx.2 hy.2 hy.1 (by omega); omega⟩
def turnV (W H c : Int) : Int := (c % W) * H + H - 1 - c / W
def mirrorV (W c : Int) : Int := c - c % W + W - 1 - c % W

set_option maxHeartbeats 400000 in
theorem spotOf_any (W H : Int) (A : Option Addr) (n c : Nat) (q : Int) (w : World) (hW : 1 ≤ W ∧ W ≤ 8) (hq : 0 ≤ q ∧ q ≤ 64) :
    Calls Tryz.prog 96 #[brd W H A n c, .int .i64 q] w fun e w' => e = .returned (lpr (q % W) (q / W)) ∧ Below w.heap.size w w' := by
  go_enter Tryz.func96, Tryz.ntmps96
  go_wp2_with fail
  refine (numbered_exact q W _ hW hq).mono ?_
  rintro e wv ⟨rfl, m, rfl⟩
  go_wp2
  exact bodyPost_ret (v := lpr (q % W) (q / W)) (by simp [results, Tryz.results96, go_sem]) rfl ⟨rfl, (by repeat (first | exact Below.refl _ _ | refine Below.setCell ?_ (by simp) _ | refine Below.drew ?_ | refine below_drewN ?_ _ | refine below_new ?_ _))⟩

set_option maxHeartbeats 400000 in
theorem number_any (x y W : Int) (w : World) (hx : 0 ≤ x ∧ x ≤ 1000) (hyW : 0 ≤ y * W ∧ y * W ≤ 1000) :
    Calls Tryz.prog 85 #[lpr x y, .int .i64 W] w fun e w' => e = .returned (.int .i64 (y * W + x)) ∧ Below w.heap.size w w' := by
  obtain ⟨hx1, hx2⟩ := hx
  obtain ⟨hy1, hy2⟩ := hyW
  go_enter Tryz.func85, Tryz.ntmps85
  go_wp2
  go_ret
  exact ⟨rfl, below_new (Below.refl _ _) _⟩

/-! ### TurnCell, MirrorCell -/
def turnCellV (W H : Int) (xs : List Int) (q : Int) : Int := if hasV W H xs q then turnV W H q else 0
def mirrorCellV (W H : Int) (xs : List Int) (q : Int) : Int := if hasV W H xs q then mirrorV W q else 0
theorem hasV_facts {W H q : Int} {xs : List Int} (h : hasV W H xs q = true) : goodB W H xs = true ∧ (1 ≤ W ∧ W ≤ 8) ∧ (1 ≤ H ∧ H ≤ 8) ∧ (0 ≤ q ∧ q < W * H) ∧ W * H ≤ 64 ∧ hasB W H xs q = true := by
  simp only [hasV, Bool.and_eq_true] at h
  obtain ⟨hW, hH, _, _⟩ := goodB_iff.1 h.1
  exact ⟨h.1, hW, hH, (hasB_iff.1 h.2).1, (cells_le hW hH).2, h.2⟩

end Go.Proofs.YtcfibfbenccimaaGreatDoor

namespace Go.Proofs.YtcfibfbenccimaaGreatDoor
open Go.RowKit

theorem div7 {W H c : Int} (hW : 1 ≤ W ∧ W ≤ 8) (hH : 1 ≤ H ∧ H ≤ 8) (hc : 0 ≤ c ∧ c < W * H) : 0 ≤ c / W ∧ c / W ≤ 7 := by
  have := div_bd hW hc; omega


end Go.Proofs.YtcfibfbenccimaaGreatDoor

namespace Go.Proofs.YtcfibfbenccimaaGreatDoor
open Go.RowKit

theorem grownSet (w : World) (a : Addr) (u : Value) : w.grownBy (w.setCell a u) (some a.block) :=
  ⟨rfl, rfl, rfl, by simp, fun k _ hk => Below.heap_setCell _ _ _ k (fun e => hk (by rw [e]))⟩
/-- A spot's own block. -/
def SpotBox (w : World) (g : Nat) (x y : Int) : Prop := w.heap[g]? = some (.cells #[.int .i64 x, .int .i64 y] 94 (0, 0))
theorem SpotBox.c0 {w : World} {g : Nat} {x y : Int} (h : SpotBox w g x y) : w.cell? ⟨g, 0, none⟩ = some (.int .i64 x) := by rw [cell_of_row w g 0 _ _ _ h]; rfl
theorem SpotBox.c1 {w : World} {g : Nat} {x y : Int} (h : SpotBox w g x y) : w.cell? ⟨g, 1, none⟩ = some (.int .i64 y) := by rw [cell_of_row w g 1 _ _ _ h]; rfl
theorem SpotBox.lt {w : World} {g : Nat} {x y : Int} (h : SpotBox w g x y) : g < w.heap.size := (Array.getElem?_eq_some_iff.1 h).1
theorem SpotBox.grown {w w' : World} {g : Nat} {x y : Int} {row : Option Nat} (h : SpotBox w g x y) (hg : w.grownBy w' row) (hne : some g ≠ row) : SpotBox w' g x y := (hg.block g h.lt hne).trans h
theorem SpotBox.keep {w w' : World} {g : Nat} {x y : Int} (h : SpotBox w g x y) (hb : Below w.heap.size w w') : SpotBox w' g x y := (hb.block g h.lt).trans h
theorem SpotBox.set {w : World} {g : Nat} {x y : Int} (h : SpotBox w g x y) (u v : Int) : SpotBox ((w.setCell ⟨g, 0, none⟩ (.int .i64 u)).setCell ⟨g, 1, none⟩ (.int .i64 v)) g u v :=
  (heap_setCell_same _ _ _ _ _ _ (heap_setCell_same _ _ _ _ _ _ h)).trans rfl
theorem SpotBox.apart {w : World} {g lo n c : Nat} {x y : Int} {A : Option Addr} {P : List Int} (h : SpotBox w g x y) (ho : OwnI 3 w lo A n c P) : ∀ a, A = some a → a.block ≠ g := fun a ha e => by
  subst ha
  rcases ho.2 with ⟨hv, _⟩ | ⟨g', cap, cur, hv, _, hg, _⟩
  · cases hv
  · injection hv with h1
    injection h1 with h1
    subst h1
    rw [show g' = g from e] at hg
    rw [SpotBox, hg] at h
    injection h with h
    injection h with h1 h2 h3
    exact absurd h2 (by decide)

end Go.Proofs.YtcfibfbenccimaaGreatDoor

namespace Go.Proofs.YtcfibfbenccimaaGreatDoor
open Go.RowKit

def posV (x : Int) : Int := if x < 0 then 0 else x
def roomV (s t : Int) : Int := posV (s - t)
theorem roomV_le {s t : Int} (h1 : 1 ≤ s ∧ s ≤ 8) (h2 : 0 ≤ t) : 0 ≤ roomV s t ∧ roomV s t ≤ 8 := by unfold roomV posV; split <;> omega
theorem mul_le8 {x y : Int} (hx : 0 ≤ x ∧ x ≤ 8) (hy : 0 ≤ y ∧ y ≤ 8) : 0 ≤ x * y ∧ x * y ≤ 64 :=
  ⟨Int.mul_nonneg hx.1 hy.1, by have := Int.mul_le_mul hx.2 hy.2 hy.1 (by omega); omega⟩
def oneV (m n a b : Int) : Int := roomV m a * roomV n b
def plainLeapsV (m n a b : Int) : Int := if sizeB m && sizeB n && leaperB a b then (if a = 0 then oneV m n a b + oneV m n b a else if a = b then 2 * oneV m n a b else 2 * (oneV m n a b + oneV m n b a)) else 0
def plainLeapsB (m n a b : Int) : Bool := sizeB m && sizeB n && leaperB a b
theorem oneV_le {m n a b : Int} (hm : 1 ≤ m ∧ m ≤ 8) (hn : 1 ≤ n ∧ n ≤ 8) (ha : 0 ≤ a) (hb : 0 ≤ b) : 0 ≤ oneV m n a b ∧ oneV m n a b ≤ 64 := mul_le8 (roomV_le hm ha) (roomV_le hn hb)

theorem quiet_drew {P : Program} {f : FuncId} {args : Array Value} {w : World} {a n : Nat} {v : Value} (h : Calls P f args (w.drewN (a + n)) fun e w' => e = .returned v ∧ w.drewN (a + n) = w') :
    Calls P f args (w.drewN (a + n)) fun e w' => e = .returned v ∧ ∃ m, w' = w.drewN (a + m) := h.mono fun _ _ ⟨he, hw⟩ => ⟨he, n, hw.symm⟩
theorem quiet_same {P : Program} {f : FuncId} {args : Array Value} {w : World} {v : Value} (h : Calls P f args w fun e w' => e = .returned v ∧ w = w') : Calls P f args w fun e w' => e = .returned v ∧ w' = w :=
  h.mono fun _ _ ⟨he, hw⟩ => ⟨he, hw.symm⟩

set_option maxHeartbeats 400000 in
theorem l1Most_any (x : Int) (w : World) :
    Calls Tryz.prog 101 #[.int .i64 0, .int .i64 x] w fun e w' => e = .returned (.int .i64 (posV x)) ∧ w = w' := by
  by_cases h : x < 0
  · go_enter Tryz.func101, Tryz.ntmps101
    go_wp2
    go_ret
    exact ⟨ret_int (by unfold posV; split <;> omega), rfl⟩
  · go_enter Tryz.func101, Tryz.ntmps101
    go_wp2
    go_ret
    exact ⟨ret_int (by unfold posV; split <;> omega), rfl⟩

theorem plain_eq {m n a b : Int} (hs : (sizeB m && sizeB n) = true) (hl : leaperB a b = true) :
    plainLeapsV m n a b = (if 0 < a ∧ a < b then (oneV m n a b + oneV m n b a) * 2 else oneV m n a b + oneV m n b a) := by
  have l1 := leaperB_iff.1 hl
  rw [plainLeapsV, hs, hl]
  simp only [Bool.and_self, if_true]
  by_cases ha : a = 0
  · subst ha; simp
  · by_cases hab : a = b
    · subst hab; simp [ha]; omega
    · rw [if_neg ha, if_neg hab, if_pos (by omega)]; omega

/-! ### Plain boards -/
def plainB (m n : Int) : Bool := sizeB m && sizeB n
def PlainBoard_w (m n : Int) : Int := if plainB m n then m else 0
def PlainBoard_h (m n : Int) : Int := if plainB m n then n else 0

end Go.Proofs.YtcfibfbenccimaaGreatDoor

namespace Go.Proofs.YtcfibfbenccimaaGreatDoor
open Go.RowKit

def absV (x : Int) : Int := if x < 0 then -x else x
theorem absV_bd {x : Int} (h : -100 ≤ x ∧ x ≤ 100) : 0 ≤ absV x ∧ absV x ≤ 100 := by unfold absV; split <;> omega
theorem absV_sub (x y : Int) : absV (x - y) = absV (y - x) := by unfold absV; split <;> split <;> omega
def leapB (W a b p q : Int) : Bool := decide ((absV (p % W - q % W) = a ∧ absV (p / W - q / W) = b) ∨ (absV (p % W - q % W) = b ∧ absV (p / W - q / W) = a))

set_option maxHeartbeats 400000 in
theorem l1Abs_any (x : Int) (w : World) (h1 : -1000 ≤ x) (h2 : x ≤ 1000) :
    Calls Tryz.prog 87 #[.int .i64 x] w fun e w' => e = .returned (.int .i64 (absV x)) ∧ w = w' := by
  by_cases h : x < 0
  · have h3 : ¬ -x < x := by omega
    go_enter Tryz.func87, Tryz.ntmps87
    go_wp2
    go_ret
    exact ⟨ret_int (by unfold absV; split <;> omega), rfl⟩
  · by_cases h0 : x = 0
    · subst h0
      go_enter Tryz.func87, Tryz.ntmps87
      go_wp2
      go_ret
      exact ⟨ret_int (by unfold absV; split <;> omega), rfl⟩
    · have h3 : -x < x := by omega
      go_enter Tryz.func87, Tryz.ntmps87
      go_wp2
      go_ret
      exact ⟨ret_int (by unfold absV; split <;> omega), rfl⟩

set_option maxHeartbeats 1000000 in
theorem boIs_any (W H : Int) (A : Option Addr) (n c : Nat) (a b p q : Int) (w : World) (hW : 1 ≤ W ∧ W ≤ 8) (hp : 0 ≤ p ∧ p ≤ 64) (hq : 0 ≤ q ∧ q ≤ 64) :
    Calls Tryz.prog 65 #[brd W H A n c, lpr a b, .int .i64 p, .int .i64 q] w fun e w' => e = .returned (.bool (leapB W a b p q)) ∧ Below w.heap.size w w' := by
  have hm := mod_bd (c := p) hW
  have hm' := mod_bd (c := q) hW
  have hd : 0 ≤ p / W ∧ p / W ≤ 64 := ⟨Int.ediv_nonneg hp.1 (by omega), Int.le_trans (Int.ediv_le_self _ hp.1) hp.2⟩
  have hd' : 0 ≤ q / W ∧ q / W ≤ 64 := ⟨Int.ediv_nonneg hq.1 (by omega), Int.le_trans (Int.ediv_le_self _ hq.1) hq.2⟩
  obtain ⟨hW1, hW2⟩ := hW
  obtain ⟨hp1, hp2⟩ := hp
  obtain ⟨hq1, hq2⟩ := hq
  obtain ⟨hm1, hm2, hm3⟩ := hm
  obtain ⟨hm4, hm5, hm6⟩ := hm'
  obtain ⟨hd1, hd2⟩ := hd
  obtain ⟨hd3, hd4⟩ := hd'
  go_enter Tryz.func65, Tryz.ntmps65
  go_wp2
  go_quiet ((go_at_call 87; exact Calls.quiet_of_same (quiet_same (l1Abs_any _ _ (by omega) (by omega)))))
  go_wp2
  all_goals (go_ret; refine ⟨ret_bool ?_, below_drewN (below_new (below_new (Below.refl _ _) _) _) _⟩)
  all_goals (rw [Bool.eq_iff_iff]; simp only [leapB, beq_iff_eq, decide_eq_true_eq, reduceCtorEq, true_iff, false_iff]; omega)

set_option maxHeartbeats 400000 in
theorem spotOf_exact (W H : Int) (A : Option Addr) (n c : Nat) (q : Int) (w : World) (hW : 1 ≤ W ∧ W ≤ 8) (hq : 0 ≤ q ∧ q ≤ 64) :
    Calls Tryz.prog 96 #[brd W H A n c, .int .i64 q] w fun e w' => e = .returned (lpr (q % W) (q / W)) ∧ ∃ m, w' = (((((w.alloc (.cells #[.int .i64 W, .int .i64 H, .slice A n c] 30)).alloc (.cells #[.int .i64 0, .int .i64 0] 94)).alloc (.cells #[.int .i64 (q % W), .int .i64 (q / W)] 94)).setCell ⟨w.heap.size + 1, 0, none⟩ (.int .i64 (q % W))).setCell ⟨w.heap.size + 1, 1, none⟩ (.int .i64 (q / W))).drewN m := by
  go_enter Tryz.func96, Tryz.ntmps96
  go_wp2_with fail
  refine (numbered_exact q W _ hW hq).mono ?_
  rintro e wv ⟨rfl, m, rfl⟩
  go_wp2
  exact bodyPost_ret (v := lpr (q % W) (q / W)) (by simp [results, Tryz.results96, go_sem]) rfl ⟨rfl, m, rfl⟩

theorem keep3 {w w' : World} {β : Nat} {u v x : Value} (h0 : w.cell? ⟨β, 0, none⟩ = some u) (h1 : w.cell? ⟨β, 1, none⟩ = some v) (h2 : w.cell? ⟨β, 2, none⟩ = some x) (hl : β < w.heap.size) (hb : Below w.heap.size w w') :
    w'.cell? ⟨β, 0, none⟩ = some u ∧ w'.cell? ⟨β, 1, none⟩ = some v ∧ w'.cell? ⟨β, 2, none⟩ = some x := ⟨cell_keep h0 hl hb, cell_keep h1 hl hb, cell_keep h2 hl hb⟩

theorem keep4 {w w' : World} {β γ : Nat} {u v x y : Value} (h0 : w.cell? ⟨β, 0, none⟩ = some u) (h1 : w.cell? ⟨β, 1, none⟩ = some v) (h2 : w.cell? ⟨γ, 0, none⟩ = some x) (h3 : w.cell? ⟨γ, 1, none⟩ = some y) (hl : β < w.heap.size) (hm : γ < w.heap.size) (hb : Below w.heap.size w w') :
    w'.cell? ⟨β, 0, none⟩ = some u ∧ w'.cell? ⟨β, 1, none⟩ = some v ∧ w'.cell? ⟨γ, 0, none⟩ = some x ∧ w'.cell? ⟨γ, 1, none⟩ = some y := ⟨cell_keep h0 hl hb, cell_keep h1 hl hb, cell_keep h2 hm hb, cell_keep h3 hm hb⟩

def SpotAt (wr : World) (g : Nat) (x y : Int) : Prop := wr.cell? ⟨g, 0, none⟩ = some (.int .i64 x) ∧ wr.cell? ⟨g, 1, none⟩ = some (.int .i64 y) ∧ g < wr.heap.size

end Go.Proofs.YtcfibfbenccimaaGreatDoor
