/-
  The walk of the exact law on PlainBoard: it answers true, and what was there stays.
-/
import Derived.Test.YtkbgdfibningoaaLaw0
import Derived.Test.YtkbgdfibningoaaC2
namespace Go.Proofs.Ytkbgdfibningoaa
open Go.RowKit

set_option maxHeartbeats 4000000 in
set_option maxRecDepth 100000 in
theorem law_PlainBoard (w : World) (q0 : Int) (q1 : Int) :
    Calls Try.prog 5 #[.int .i64 q0, .int .i64 q1] w fun e w' => e = .returned (.bool true) ∧ Below w.heap.size w w' := by
  · go_enter Try.func5, Try.ntmps5
    go_wp2_with fail
    refine (spec_PlainBoard _ _ _).mono ?_
    rintro e wv ⟨AW, nW, cW, rfl, ownW, hb⟩
    have B := Lib.hid hb
    have hs1 := Lib.hid hb.size
    have OW := Lib.hid ownW; have SPW := Lib.hid ownW.span; clear ownW
    clear hb
    obtain ⟨wou, hwou⟩ : ∃ wx, wx = wv := ⟨_, rfl⟩
    subst hwou
    go_wp2_with fail
    refine (impl_PlainBoard _ _ _).mono ?_
    rintro e wv ⟨AG, nG, cG, rfl, ownG, hb⟩
    have u0 : wv.cell? ⟨wou.heap.size, 0, none⟩ = some (.int .i64 (PlainBoard_w q0 q1)) := by simpa using newbox hb 0
    have u1 : wv.cell? ⟨wou.heap.size, 1, none⟩ = some (.int .i64 (PlainBoard_h q0 q1)) := by simpa using newbox hb 1
    have u2 : wv.cell? ⟨wou.heap.size, 2, none⟩ = some (.slice AW nW cW) := by simpa using newbox hb 2
    have ul := newbox_lt hb
    have stu := Lib.hid ul
    replace ownG := ownG.lower (World.lt_alloc _ _)
    replace hb := below_box hb
    replace OW := Lib.hid (OW.out.keep hb)
    have hs2 := Lib.hid hb.size
    replace B := Lib.hid (below_next B.out hb)
    generalize hku : wou.heap.size = ku at *
    have OG := Lib.hid ownG; have SPG := Lib.hid ownG.span; clear ownG
    clear hb
    have SZ := Lib.hid (show nG ≤ 1000000 by rw [← OG.out.len]; exact len_PlainBoard )
    obtain ⟨wov, hwov⟩ : ∃ wx, wx = wv := ⟨_, rfl⟩
    subst hwov
    go_wp2_with fail
    refine (eqBoard_any _ _ _ _ _ _ _ _ _ _ _ (OG.out.rd.alloc _) (OW.out.rd.alloc _)).mono ?_
    simp only [decide_true]
    rintro e wv ⟨rfl, hb⟩
    have v0 : wv.cell? ⟨wov.heap.size, 0, none⟩ = some (.int .i64 (PlainBoard_w q0 q1)) := by simpa using newbox hb 0
    have v1 : wv.cell? ⟨wov.heap.size, 1, none⟩ = some (.int .i64 (PlainBoard_h q0 q1)) := by simpa using newbox hb 1
    have v2 : wv.cell? ⟨wov.heap.size, 2, none⟩ = some (.slice AG nG cG) := by simpa using newbox hb 2
    have vl := newbox_lt hb
    have stv := Lib.hid vl
    replace hb := below_box hb
    replace u0 := cell_keep u0 ul hb
    replace u1 := cell_keep u1 ul hb
    replace u2 := cell_keep u2 ul hb
    replace ul := lt_keep ul hb
    replace OW := Lib.hid (OW.out.keep hb)
    replace OG := Lib.hid (OG.out.keep hb)
    have hs3 := Lib.hid hb.size
    replace B := Lib.hid (below_next B.out hb)
    generalize hkv : wov.heap.size = kv at *
    clear hb
    go_wp2_with fail
    refine (markBoard_any _ _ _ _ _ _ 1 _ _ OG.out (by omega) (by have := SZ.out; omega)).mono ?_
    rintro e wv ⟨rfl, O', hg⟩
    replace u0 := cell_mark u0 hg (row_ne fun b hb => by have := SPG.out b hb; have := stu.out; have := stv.out; have := hs1.out; have := hs2.out; have := hs3.out; omega)
    replace u1 := cell_mark u1 hg (row_ne fun b hb => by have := SPG.out b hb; have := stu.out; have := stv.out; have := hs1.out; have := hs2.out; have := hs3.out; omega)
    replace u2 := cell_mark u2 hg (row_ne fun b hb => by have := SPG.out b hb; have := stu.out; have := stv.out; have := hs1.out; have := hs2.out; have := hs3.out; omega)
    replace ul := Nat.lt_of_lt_of_le ul hg.size
    replace v0 := cell_mark v0 hg (row_ne fun b hb => by have := SPG.out b hb; have := stu.out; have := stv.out; have := hs1.out; have := hs2.out; have := hs3.out; omega)
    replace v1 := cell_mark v1 hg (row_ne fun b hb => by have := SPG.out b hb; have := stu.out; have := stv.out; have := hs1.out; have := hs2.out; have := hs3.out; omega)
    replace v2 := cell_mark v2 hg (row_ne fun b hb => by have := SPG.out b hb; have := stu.out; have := stv.out; have := hs1.out; have := hs2.out; have := hs3.out; omega)
    replace vl := Nat.lt_of_lt_of_le vl hg.size
    replace OW := Lib.hid (OW.out.other hg fun a ha => row_ne fun b hb => by have := SPW.out a ha; have := SPG.out b hb; have := stu.out; have := stv.out; have := hs1.out; have := hs2.out; have := hs3.out; omega)
    replace B := Lib.hid (B.out.grown hg B.out.size (row_ge fun b hb => by have := SPG.out b hb; have := stu.out; have := stv.out; have := hs1.out; have := hs2.out; have := hs3.out; omega))
    have hs4 := Lib.hid hg.size
    replace OG := Lib.hid O'; clear O' hg
    go_wp2_with fail
    refine (heldBoard_any _ _ _ _ _ 1 _ OG.out.rd (by omega) (by have := SZ.out; omega)).mono ?_
    rintro e wv ⟨rfl, hb⟩
    replace u0 := cell_keep u0 ul hb
    replace u1 := cell_keep u1 ul hb
    replace u2 := cell_keep u2 ul hb
    replace ul := lt_keep ul hb
    replace v0 := cell_keep v0 vl hb
    replace v1 := cell_keep v1 vl hb
    replace v2 := cell_keep v2 vl hb
    replace vl := lt_keep vl hb
    replace OW := Lib.hid (OW.out.keep hb)
    replace OG := Lib.hid (OG.out.keep hb)
    have hs5 := Lib.hid hb.size
    replace B := Lib.hid (below_next B.out hb)
    clear hb
    go_wp2_with fail
    refine (impl_PlainBoard _ _ _).mono ?_
    rintro e wv ⟨AH, nH, cH, rfl, ownH, hb⟩
    replace u0 := cell_keep u0 ul hb
    replace u1 := cell_keep u1 ul hb
    replace u2 := cell_keep u2 ul hb
    replace ul := lt_keep ul hb
    replace v0 := cell_keep v0 vl hb
    replace v1 := cell_keep v1 vl hb
    replace v2 := cell_keep v2 vl hb
    replace vl := lt_keep vl hb
    replace OW := Lib.hid (OW.out.keep hb)
    replace OG := Lib.hid (OG.out.keep hb)
    have hs6 := Lib.hid hb.size
    replace B := Lib.hid (below_next B.out hb)
    have OH := Lib.hid ownH; have SPH := Lib.hid ownH.span; clear ownH
    clear hb
    obtain ⟨woh, hwoh⟩ : ∃ wx, wx = wv := ⟨_, rfl⟩
    subst hwoh
    go_wp2_with fail
    refine (eqBoard_any _ _ _ _ _ _ _ _ _ _ _ (OH.out.rd.alloc _) (OW.out.rd.alloc _)).mono ?_
    simp only [decide_true]
    rintro e wv ⟨rfl, hb⟩
    have h0 : wv.cell? ⟨woh.heap.size, 0, none⟩ = some (.int .i64 (PlainBoard_w q0 q1)) := by simpa using newbox hb 0
    have h1 : wv.cell? ⟨woh.heap.size, 1, none⟩ = some (.int .i64 (PlainBoard_h q0 q1)) := by simpa using newbox hb 1
    have h2 : wv.cell? ⟨woh.heap.size, 2, none⟩ = some (.slice AH nH cH) := by simpa using newbox hb 2
    have hl := newbox_lt hb
    have sth := Lib.hid hl
    replace hb := below_box hb
    replace u0 := cell_keep u0 ul hb
    replace u1 := cell_keep u1 ul hb
    replace u2 := cell_keep u2 ul hb
    replace ul := lt_keep ul hb
    replace v0 := cell_keep v0 vl hb
    replace v1 := cell_keep v1 vl hb
    replace v2 := cell_keep v2 vl hb
    replace vl := lt_keep vl hb
    replace OW := Lib.hid (OW.out.keep hb)
    replace OG := Lib.hid (OG.out.keep hb)
    replace OH := Lib.hid (OH.out.keep hb)
    have hs7 := Lib.hid hb.size
    replace B := Lib.hid (below_next B.out hb)
    generalize hkh : woh.heap.size = kh at *
    clear hb
    go_wp2_with fail
    refine (heldBoard_any _ _ _ _ _ 1 _ OG.out.rd (by omega) (by have := SZ.out; omega)).mono ?_
    rintro e wv ⟨rfl, hb⟩
    replace u0 := cell_keep u0 ul hb
    replace u1 := cell_keep u1 ul hb
    replace u2 := cell_keep u2 ul hb
    replace ul := lt_keep ul hb
    replace v0 := cell_keep v0 vl hb
    replace v1 := cell_keep v1 vl hb
    replace v2 := cell_keep v2 vl hb
    replace vl := lt_keep vl hb
    replace h0 := cell_keep h0 hl hb
    replace h1 := cell_keep h1 hl hb
    replace h2 := cell_keep h2 hl hb
    replace hl := lt_keep hl hb
    replace OW := Lib.hid (OW.out.keep hb)
    replace OG := Lib.hid (OG.out.keep hb)
    replace OH := Lib.hid (OH.out.keep hb)
    have hs8 := Lib.hid hb.size
    replace B := Lib.hid (below_next B.out hb)
    clear hb
    go_wp2
    go_ret
    exact ⟨rfl, B.out⟩

end Go.Proofs.Ytkbgdfibningoaa
