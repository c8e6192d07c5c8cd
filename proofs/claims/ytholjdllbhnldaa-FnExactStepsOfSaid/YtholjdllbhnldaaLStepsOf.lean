/-
  The walk of the exact law on StepsOf: it answers true, and what was there stays.
-/
import Derived.Test.YtholjdllbhnldaaLaw0
import Derived.Test.YtholjdllbhnldaaV1
namespace Go.Proofs.Ytholjdllbhnldaa
open Go.RowKit

set_option maxHeartbeats 4000000 in
set_option maxRecDepth 100000 in
theorem law_StepsOf (w : World) (la0 lb0 : Int) :
    Calls Try.prog 3 #[lpr la0 lb0] w fun e w' => e = .returned (.bool true) ∧ Below w.heap.size w w' := by
  · go_enter Try.func3, Try.ntmps3
    go_wp2_with fail
    refine (toLeaper_any _ _ _).mono ?_
    rintro e wv ⟨rfl, hb⟩
    have l0 : wv.cell? ⟨w.heap.size, 0, none⟩ = some (.int .i64 la0) := by simpa using newbox hb 0
    have l1 : wv.cell? ⟨w.heap.size, 1, none⟩ = some (.int .i64 lb0) := by simpa using newbox hb 1
    have ll : w.heap.size < wv.heap.size := by simpa using newbox_lt hb
    have B := Lib.hid (below_box hb)
    have hs1 := Lib.hid (below_box hb).size
    have hz := Lib.hid ll
    clear hb
    go_wp2_with fail
    refine (spec_StepsOf _ _ _).mono ?_
    rintro e wv ⟨AW, nW, cW, rfl, ownW, hb⟩
    replace l0 := cell_keep l0 ll hb
    replace l1 := cell_keep l1 ll hb
    replace ll := lt_keep ll hb
    have hs2 := Lib.hid hb.size
    replace B := Lib.hid (below_next B.out hb)
    have OW := Lib.hid ownW; clear ownW; clear hb
    go_wp2_with fail
    refine (toLeaper_any _ _ _).mono ?_
    rintro e wv ⟨rfl, hb⟩
    replace l0 := cell_keep l0 ll hb
    replace l1 := cell_keep l1 ll hb
    replace ll := lt_keep ll hb
    replace OW := Lib.hid (OW.out.keep hb)
    have hs3 := Lib.hid hb.size
    replace B := Lib.hid (below_next B.out hb)
    clear hb
    go_wp2_with fail
    refine (impl_StepsOf _ _ _).mono ?_
    rintro e wv ⟨AG, nG, cG, rfl, ownG, hb⟩
    replace l0 := cell_keep l0 ll hb
    replace l1 := cell_keep l1 ll hb
    replace ll := lt_keep ll hb
    replace OW := Lib.hid (OW.out.keep hb)
    have hs4 := Lib.hid hb.size
    replace B := Lib.hid (below_next B.out hb)
    have OG := Lib.hid ownG; clear ownG; clear hb
    have PS := Lib.hid (stepsV_small la0 lb0)
    have PN := Lib.hid OG.out.len
    have SZ := Lib.hid (show nG ≤ 64 by rw [← PN.out]; exact PS.out.1)
    go_wp2_with fail
    refine (eqIntSS_any _ _ _ _ _ _ _ _ _ _ _ _ OG.out OW.out (by rw [← OG.out.len]; exact PS.out.1)).mono ?_
    rintro e wv ⟨rfl, hb⟩
    replace l0 := cell_keep l0 ll hb
    replace l1 := cell_keep l1 ll hb
    replace ll := lt_keep ll hb
    replace OW := Lib.hid (OW.out.keep hb)
    replace OG := Lib.hid (OG.out.keep hb)
    have hs5 := Lib.hid hb.size
    replace B := Lib.hid (below_next B.out hb)
    clear hb
    go_wp2_with fail
    refine (markIntSS_any _ _ _ _ _ _ 1 _ OG.out PS.out.2 SZ.out (by omega)).mono ?_
    rintro e wv ⟨rfl, OG', hg⟩
    have hkk := markTo_bd (k0 := 1) PS.out.2 nG
    obtain ⟨kk, hk9⟩ : ∃ kk, kk = (markTo (stepsV la0 lb0) 1 nG).2 := ⟨_, rfl⟩
    rw [← hk9] at hkk ⊢
    have KK := Lib.hid hk9
    have hkk0 : decide (kk < 0) = false := by simp; omega
    clear hk9
    replace l0 := cell_in l0 hg ll (by have := hz.out; have := hs1.out; have := hs2.out; have := hs3.out; have := hs4.out; have := hs5.out; omega)
    replace l1 := cell_in l1 hg ll (by have := hz.out; have := hs1.out; have := hs2.out; have := hs3.out; have := hs4.out; have := hs5.out; omega)
    replace ll := Nat.lt_of_lt_of_le ll hg.size
    replace OW := Lib.hid (OW.out.within hg (by have := hz.out; have := hs1.out; have := hs2.out; have := hs3.out; have := hs4.out; have := hs5.out; omega))
    replace B := Lib.hid (below_within B.out hg (by have := hz.out; have := hs1.out; have := hs2.out; have := hs3.out; have := hs4.out; have := hs5.out; omega))
    have hs6 := Lib.hid hg.size
    replace OG := Lib.hid OG'; clear OG' hg
    go_wp2_with fail
    refine (heldIntSS_any _ _ _ _ _ (stepsV la0 lb0) 1 _ OG.out PS.out.2 SZ.out PN.out (by omega)).mono ?_
    rw [← KK.out]
    rintro e wv ⟨rfl, hb⟩
    replace l0 := cell_keep l0 ll hb
    replace l1 := cell_keep l1 ll hb
    replace ll := lt_keep ll hb
    replace OW := Lib.hid (OW.out.keep hb)
    replace OG := Lib.hid (OG.out.keep hb)
    have hs7 := Lib.hid hb.size
    replace B := Lib.hid (below_next B.out hb)
    clear hb
    go_wp2_with fail
    refine (toLeaper_any _ _ _).mono ?_
    rintro e wv ⟨rfl, hb⟩
    replace l0 := cell_keep l0 ll hb
    replace l1 := cell_keep l1 ll hb
    replace ll := lt_keep ll hb
    replace OW := Lib.hid (OW.out.keep hb)
    replace OG := Lib.hid (OG.out.keep hb)
    have hs8 := Lib.hid hb.size
    replace B := Lib.hid (below_next B.out hb)
    clear hb
    go_wp2_with fail
    refine (impl_StepsOf _ _ _).mono ?_
    rintro e wv ⟨AH, nH, cH, rfl, ownH, hb⟩
    replace l0 := cell_keep l0 ll hb
    replace l1 := cell_keep l1 ll hb
    replace ll := lt_keep ll hb
    replace OW := Lib.hid (OW.out.keep hb)
    replace OG := Lib.hid (OG.out.keep hb)
    have hs9 := Lib.hid hb.size
    replace B := Lib.hid (below_next B.out hb)
    have OH := Lib.hid ownH; clear ownH; clear hb
    go_wp2_with fail
    refine (eqIntSS_any _ _ _ _ _ _ _ _ _ _ _ _ OH.out OW.out (by rw [← OH.out.len]; exact PS.out.1)).mono ?_
    rintro e wv ⟨rfl, hb⟩
    replace l0 := cell_keep l0 ll hb
    replace l1 := cell_keep l1 ll hb
    replace ll := lt_keep ll hb
    replace OW := Lib.hid (OW.out.keep hb)
    replace OG := Lib.hid (OG.out.keep hb)
    have hs10 := Lib.hid hb.size
    replace B := Lib.hid (below_next B.out hb)
    clear hb OH
    go_wp2_with fail
    refine (heldIntSS_any _ _ _ _ _ (stepsV la0 lb0) 1 _ OG.out PS.out.2 SZ.out PN.out (by omega)).mono ?_
    rw [← KK.out]
    rintro e wv ⟨rfl, hb⟩
    replace l0 := cell_keep l0 ll hb
    replace l1 := cell_keep l1 ll hb
    replace ll := lt_keep ll hb
    replace OW := Lib.hid (OW.out.keep hb)
    replace OG := Lib.hid (OG.out.keep hb)
    have hs11 := Lib.hid hb.size
    replace B := Lib.hid (below_next B.out hb)
    clear hb
    go_wp2
    go_ret
    exact ⟨rfl, B.out⟩

end Go.Proofs.Ytholjdllbhnldaa
