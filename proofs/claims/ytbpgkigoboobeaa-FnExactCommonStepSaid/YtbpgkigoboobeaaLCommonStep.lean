/-
  The walk of the exact law on CommonStep: it answers true, and what was there stays.
-/
import Derived.Test.YtbpgkigoboobeaaLaw0
import Derived.Test.YtbpgkigoboobeaaF2
namespace Go.Proofs.Ytbpgkigoboobeaa
open Go.RowKit

set_option maxHeartbeats 4000000 in
set_option maxRecDepth 100000 in
theorem law_CommonStep (w : World) (la0 lb0 : Int) :
    Calls Try.prog 4 #[lpr la0 lb0] w fun e w' => e = .returned (.bool true) ∧ Below w.heap.size w w' := by
  · go_enter Try.func4, Try.ntmps4
    go_wp2_with fail
    refine (toLeaper_any _ _ _).mono ?_
    rintro e wv ⟨rfl, hb⟩
    have l0 : wv.cell? ⟨w.heap.size, 0, none⟩ = some (.int .i64 la0) := by simpa using newbox hb 0
    have l1 : wv.cell? ⟨w.heap.size, 1, none⟩ = some (.int .i64 lb0) := by simpa using newbox hb 1
    have ll : w.heap.size < wv.heap.size := by simpa using newbox_lt hb
    have B := Lib.hid (below_box hb)
    have hs1 := Lib.hid (below_box hb).size
    have hz := Lib.hid ll
    clear hb
    go_wp2_with fail
    refine (spec_CommonStep _ _ _).mono ?_
    rintro e wv ⟨rfl, hb⟩
    replace l0 := cell_keep l0 ll hb
    replace l1 := cell_keep l1 ll hb
    replace ll := lt_keep ll hb
    have hs2 := Lib.hid hb.size
    replace B := Lib.hid (below_next B.out hb)
    clear hb
    go_wp2_with fail
    refine (toLeaper_any _ _ _).mono ?_
    rintro e wv ⟨rfl, hb⟩
    replace l0 := cell_keep l0 ll hb
    replace l1 := cell_keep l1 ll hb
    replace ll := lt_keep ll hb
    have hs3 := Lib.hid hb.size
    replace B := Lib.hid (below_next B.out hb)
    clear hb
    go_wp2_with fail
    refine (impl_CommonStep _ _ _).mono ?_
    rintro e wv ⟨rfl, hb⟩
    replace l0 := cell_keep l0 ll hb
    replace l1 := cell_keep l1 ll hb
    replace ll := lt_keep ll hb
    have hs4 := Lib.hid hb.size
    replace B := Lib.hid (below_next B.out hb)
    clear hb
    go_wp2
    go_ret
    exact ⟨rfl, B.out⟩

end Go.Proofs.Ytbpgkigoboobeaa
