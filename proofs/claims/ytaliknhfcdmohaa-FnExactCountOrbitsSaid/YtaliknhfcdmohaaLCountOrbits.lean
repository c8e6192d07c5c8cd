/-
  The walk of the exact law on CountOrbits: it answers true, and what was there stays.
-/
import Derived.Test.YtaliknhfcdmohaaLaw0
import Derived.Test.YtaliknhfcdmohaaOK
namespace Go.Proofs.Ytaliknhfcdmohaa
open Go.RowKit

set_option maxHeartbeats 4000000 in
set_option maxRecDepth 100000 in
theorem law_CountOrbits (w : World) (W H : Int) (ac up : Bool) (q1 : Int) (q2 : Int) :
    Calls Try.prog 12 #[ard W H ac up, .int .i64 q1, .int .i64 q2] w fun e w' => e = .returned (.bool true) ∧ Below w.heap.size w w' := by
  obtain ⟨W2, hW2⟩ : ∃ W2, W2 = w.alloc (.cells #[.int .i64 W, .int .i64 H, .bool ac, .bool up] 23) := ⟨_, rfl⟩
  have hsz : W2.heap.size = w.heap.size + 1 := by rw [hW2]; simp
  have a0 : W2.cell? ⟨w.heap.size, 0, none⟩ = some (.int .i64 W) := by rw [hW2]; go_simp
  have a1 : W2.cell? ⟨w.heap.size, 1, none⟩ = some (.int .i64 H) := by rw [hW2]; go_simp
  have a2 : W2.cell? ⟨w.heap.size, 2, none⟩ = some (.bool ac) := by rw [hW2]; go_simp
  have a3 : W2.cell? ⟨w.heap.size, 3, none⟩ = some (.bool up) := by rw [hW2]; go_simp
  have al : w.heap.size < W2.heap.size := by omega
  have B := Lib.hid (show Below w.heap.size w W2 by rw [hW2]; repeat (first | exact Below.refl _ _ | refine below_new ?_ _))
  have hs0 := Lib.hid B.out.size
  go_enter Try.func12, Try.ntmps12
  go_wp2_with fail
  rw [← hW2]
  clear hW2
  refine (toAround_any _ _ _ _ _).mono ?_
  rintro e wv ⟨rfl, hb⟩
  have hs1 := Lib.hid hb.size
  replace a0 := cell_keep a0 al hb
  replace a1 := cell_keep a1 al hb
  replace a2 := cell_keep a2 al hb
  replace a3 := cell_keep a3 al hb
  replace al := lt_keep al hb
  replace B := Lib.hid (below_next B.out hb)
  clear hb
  go_wp2_with fail
  refine (spec_CountOrbits _ _ _ _ _ _ _).mono ?_
  rintro e wv ⟨rfl, hb⟩
  have hs2 := Lib.hid hb.size
  replace a0 := cell_keep a0 al hb
  replace a1 := cell_keep a1 al hb
  replace a2 := cell_keep a2 al hb
  replace a3 := cell_keep a3 al hb
  replace al := lt_keep al hb
  replace B := Lib.hid (below_next B.out hb)
  clear hb
  go_wp2_with fail
  refine (toAround_any _ _ _ _ _).mono ?_
  rintro e wv ⟨rfl, hb⟩
  have hs3 := Lib.hid hb.size
  replace a0 := cell_keep a0 al hb
  replace a1 := cell_keep a1 al hb
  replace a2 := cell_keep a2 al hb
  replace a3 := cell_keep a3 al hb
  replace al := lt_keep al hb
  replace B := Lib.hid (below_next B.out hb)
  clear hb
  go_wp2_with fail
  refine (impl_CountOrbits _ _ _ _ _ _ _).mono ?_
  rintro e wv ⟨rfl, hb⟩
  have hs4 := Lib.hid hb.size
  replace a0 := cell_keep a0 al hb
  replace a1 := cell_keep a1 al hb
  replace a2 := cell_keep a2 al hb
  replace a3 := cell_keep a3 al hb
  replace al := lt_keep al hb
  replace B := Lib.hid (below_next B.out hb)
  clear hb
  clear a0 a1 a2 a3 al
  go_wp2
  go_ret
  exact ⟨rfl, (by repeat (first | exact B.out | refine below_drewN ?_ _ | refine Below.drew ?_))⟩

end Go.Proofs.Ytaliknhfcdmohaa
