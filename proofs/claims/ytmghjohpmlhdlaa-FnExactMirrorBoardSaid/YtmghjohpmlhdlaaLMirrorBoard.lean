/-
  The walk of the exact law on MirrorBoard: it answers true, and what was there stays.
-/
import Derived.Test.YtmghjohpmlhdlaaLaw0
import Derived.Test.YtmghjohpmlhdlaaU4
namespace Go.Proofs.Ytmghjohpmlhdlaa
open Go.RowKit

set_option maxHeartbeats 4000000 in
set_option maxRecDepth 100000 in
theorem law_MirrorBoard (w : World) (V0 G0 : Int) (A0 : Option Addr) (n0 c0 : Nat) (xs0 : List Int) (ha0 : Rd w A0 n0 xs0) :
    Calls Try.prog 9 #[brd V0 G0 A0 n0 c0] w fun e w' => e = .returned (.bool true) ∧ Below w.heap.size w w' := by
  have hn9 := ha0.2.1
  by_cases hnB : (n0 : Int) ≤ 1048576
  rotate_left
  · go_enter Try.func9, Try.ntmps9
    go_wp2_with fail
    refine (szBoard_any _ _ _ _ _ _ _ hn9 (by omega) (by omega)).mono ?_
    rintro e wv ⟨rfl, hb⟩
    have B := Lib.hid (below_box hb)
    clear hb
    go_wp2
    go_ret
    exact ⟨rfl, B.out⟩
  · go_enter Try.func9, Try.ntmps9
    go_wp2_with fail
    refine (szBoard_any _ _ _ _ _ _ _ hn9 (by omega) (by omega)).mono ?_
    rintro e wv ⟨rfl, hb⟩
    have a0 : wv.cell? ⟨w.heap.size, 0, none⟩ = some (.int .i64 V0) := by simpa using newbox hb 0
    have a1 : wv.cell? ⟨w.heap.size, 1, none⟩ = some (.int .i64 G0) := by simpa using newbox hb 1
    have a2 : wv.cell? ⟨w.heap.size, 2, none⟩ = some (.slice A0 n0 c0) := by simpa using newbox hb 2
    have al := newbox_lt hb
    have hz := Lib.hid al
    have B := Lib.hid (below_box hb)
    have hs1 := Lib.hid B.out.size
    clear hb
    go_wp2_with fail
    refine (toBoard_any _ _ _ _ _ _ _ (ha0.keep B.out) (by omega)).mono ?_
    rintro e wv ⟨gs, rfl, owns, hb⟩
    replace a0 := cell_keep a0 al hb
    replace a1 := cell_keep a1 al hb
    replace a2 := cell_keep a2 al hb
    replace al := lt_keep al hb
    have hs2 := Lib.hid hb.size
    replace B := Lib.hid (below_next B.out hb)
    have Os := Lib.hid owns; have SPs := Lib.hid owns.span; clear owns
    clear hb
    go_wp2_with fail
    refine (spec_MirrorBoard _ _ _ _ _ _ _ Os.out.rd).mono ?_
    rintro e wv ⟨AW, nW, cW, rfl, ownW, hb⟩
    replace a0 := cell_keep a0 al hb
    replace a1 := cell_keep a1 al hb
    replace a2 := cell_keep a2 al hb
    replace al := lt_keep al hb
    have hs3 := Lib.hid hb.size
    replace B := Lib.hid (below_next B.out hb)
    have OW := Lib.hid ownW; have SPW := Lib.hid ownW.span; clear ownW
    clear hb
    clear Os SPs
    obtain ⟨wou, hwou⟩ : ∃ wx, wx = wv := ⟨_, rfl⟩
    subst hwou
    go_wp2_with fail
    refine (toBoard_any _ _ _ _ _ _ _ ((ha0.keep B.out).alloc _) (by omega)).mono ?_
    rintro e wv ⟨gx, rfl, ownx, hb⟩
    have u0 : wv.cell? ⟨wou.heap.size, 0, none⟩ = some (.int .i64 (MirrorBoard_w V0 G0 xs0)) := by simpa using newbox hb 0
    have u1 : wv.cell? ⟨wou.heap.size, 1, none⟩ = some (.int .i64 (MirrorBoard_h V0 G0 xs0)) := by simpa using newbox hb 1
    have u2 : wv.cell? ⟨wou.heap.size, 2, none⟩ = some (.slice AW nW cW) := by simpa using newbox hb 2
    have ul := newbox_lt hb
    have stu := Lib.hid ul
    replace ownx := ownx.lower (World.lt_alloc _ _)
    replace hb := below_box hb
    replace a0 := cell_keep a0 al hb
    replace a1 := cell_keep a1 al hb
    replace a2 := cell_keep a2 al hb
    replace al := lt_keep al hb
    replace OW := Lib.hid (OW.out.keep hb)
    have hs4 := Lib.hid hb.size
    replace B := Lib.hid (below_next B.out hb)
    generalize hku : wou.heap.size = ku at *
    have Ox := Lib.hid ownx; have SPx := Lib.hid ownx.span; clear ownx
    clear hb
    obtain ⟨wox, hwox⟩ : ∃ wx, wx = wv := ⟨_, rfl⟩
    subst hwox
    go_wp2_with fail
    refine (impl_MirrorBoard _ _ _ _ _ _ _ (Ox.out.rd.alloc _)).mono ?_
    rintro e wv ⟨AG, nG, cG, rfl, ownG, hb⟩
    have x0 : wv.cell? ⟨wox.heap.size, 0, none⟩ = some (.int .i64 V0) := by simpa using newbox hb 0
    have x1 : wv.cell? ⟨wox.heap.size, 1, none⟩ = some (.int .i64 G0) := by simpa using newbox hb 1
    have x2 : wv.cell? ⟨wox.heap.size, 2, none⟩ = some (.slice (some ⟨gx, 0, none⟩) n0 n0) := by simpa using newbox hb 2
    have xl := newbox_lt hb
    have stx := Lib.hid xl
    replace ownG := ownG.lower (World.lt_alloc _ _)
    replace hb := below_box hb
    replace a0 := cell_keep a0 al hb
    replace a1 := cell_keep a1 al hb
    replace a2 := cell_keep a2 al hb
    replace al := lt_keep al hb
    replace u0 := cell_keep u0 ul hb
    replace u1 := cell_keep u1 ul hb
    replace u2 := cell_keep u2 ul hb
    replace ul := lt_keep ul hb
    replace OW := Lib.hid (OW.out.keep hb)
    replace Ox := Lib.hid (Ox.out.keep hb)
    have hs5 := Lib.hid hb.size
    replace B := Lib.hid (below_next B.out hb)
    generalize hkx : wox.heap.size = kx at *
    have OG := Lib.hid ownG; have SPG := Lib.hid ownG.span; clear ownG
    clear hb
    have hx0 : gx < kx := (SPx.out _ rfl).2
    have SZ := Lib.hid (show nG ≤ 1000000 by rw [← OG.out.len]; exact len_MirrorBoard _ _ _)
    obtain ⟨wov, hwov⟩ : ∃ wx, wx = wv := ⟨_, rfl⟩
    subst hwov
    go_wp2_with fail
    refine (eqBoard_any _ _ _ _ _ _ _ _ _ _ _ (OG.out.rd.alloc _) (OW.out.rd.alloc _)).mono ?_
    simp only [decide_true]
    rintro e wv ⟨rfl, hb⟩
    have v0 : wv.cell? ⟨wov.heap.size, 0, none⟩ = some (.int .i64 (MirrorBoard_w V0 G0 xs0)) := by simpa using newbox hb 0
    have v1 : wv.cell? ⟨wov.heap.size, 1, none⟩ = some (.int .i64 (MirrorBoard_h V0 G0 xs0)) := by simpa using newbox hb 1
    have v2 : wv.cell? ⟨wov.heap.size, 2, none⟩ = some (.slice AG nG cG) := by simpa using newbox hb 2
    have vl := newbox_lt hb
    have stv := Lib.hid vl
    replace hb := below_box hb
    replace a0 := cell_keep a0 al hb
    replace a1 := cell_keep a1 al hb
    replace a2 := cell_keep a2 al hb
    replace al := lt_keep al hb
    replace u0 := cell_keep u0 ul hb
    replace u1 := cell_keep u1 ul hb
    replace u2 := cell_keep u2 ul hb
    replace ul := lt_keep ul hb
    replace x0 := cell_keep x0 xl hb
    replace x1 := cell_keep x1 xl hb
    replace x2 := cell_keep x2 xl hb
    replace xl := lt_keep xl hb
    replace OW := Lib.hid (OW.out.keep hb)
    replace Ox := Lib.hid (Ox.out.keep hb)
    replace OG := Lib.hid (OG.out.keep hb)
    have hs6 := Lib.hid hb.size
    replace B := Lib.hid (below_next B.out hb)
    generalize hkv : wov.heap.size = kv at *
    clear hb
    go_wp2_with fail
    go_region_held3 (fun w' => w'.cell? ⟨w.heap.size, 0, none⟩ = some (.int .i64 V0) ∧ w'.cell? ⟨w.heap.size, 1, none⟩ = some (.int .i64 G0) ∧ w'.cell? ⟨w.heap.size, 2, none⟩ = some (.slice A0 n0 c0) ∧ w'.cell? ⟨ku, 0, none⟩ = some (.int .i64 (MirrorBoard_w V0 G0 xs0)) ∧ w'.cell? ⟨ku, 1, none⟩ = some (.int .i64 (MirrorBoard_h V0 G0 xs0)) ∧ w'.cell? ⟨ku, 2, none⟩ = some (.slice AW nW cW) ∧ w'.cell? ⟨kx, 0, none⟩ = some (.int .i64 V0) ∧ w'.cell? ⟨kx, 1, none⟩ = some (.int .i64 G0) ∧ w'.cell? ⟨kx, 2, none⟩ = some (.slice (some ⟨gx, 0, none⟩) n0 n0) ∧ w'.cell? ⟨kv, 0, none⟩ = some (.int .i64 (MirrorBoard_w V0 G0 xs0)) ∧ w'.cell? ⟨kv, 1, none⟩ = some (.int .i64 (MirrorBoard_h V0 G0 xs0)) ∧ w'.cell? ⟨kv, 2, none⟩ = some (.slice AG nG cG)) (first | exact ⟨a0, a1, a2, u0, u1, u2, x0, x1, x2, v0, v1, v2⟩)
      (first
        | (go_at_call 19; refine (toBoard_any _ _ _ _ _ _ _ (by exact (ha0.keep B.out).drew1) (by omega)).mono ?_; rintro e wv ⟨gy, rfl, owny, hb⟩; (try replace hb := below_undrew hb); replace a0 := cell_keep a0 al hb; replace a1 := cell_keep a1 al hb; replace a2 := cell_keep a2 al hb; replace al := lt_keep al hb; replace u0 := cell_keep u0 ul hb; replace u1 := cell_keep u1 ul hb; replace u2 := cell_keep u2 ul hb; replace ul := lt_keep ul hb; replace x0 := cell_keep x0 xl hb; replace x1 := cell_keep x1 xl hb; replace x2 := cell_keep x2 xl hb; replace xl := lt_keep xl hb; replace v0 := cell_keep v0 vl hb; replace v1 := cell_keep v1 vl hb; replace v2 := cell_keep v2 vl hb; replace vl := lt_keep vl hb; replace OW := Lib.hid (OW.out.keep hb); replace Ox := Lib.hid (Ox.out.keep hb); replace OG := Lib.hid (OG.out.keep hb); have hs7 := Lib.hid hb.size; replace B := Lib.hid (below_next B.out hb); have Oy := Lib.hid owny; clear hb owny)
        | (go_at_call 21; refine (eqBoard_any _ _ _ _ _ _ _ _ _ _ _ Ox.out.rd Oy.out.rd).mono ?_; simp only [decide_true]; rintro e wv ⟨rfl, hb⟩; (try replace hb := below_undrew hb); replace a0 := cell_keep a0 al hb; replace a1 := cell_keep a1 al hb; replace a2 := cell_keep a2 al hb; replace al := lt_keep al hb; replace u0 := cell_keep u0 ul hb; replace u1 := cell_keep u1 ul hb; replace u2 := cell_keep u2 ul hb; replace ul := lt_keep ul hb; replace x0 := cell_keep x0 xl hb; replace x1 := cell_keep x1 xl hb; replace x2 := cell_keep x2 xl hb; replace xl := lt_keep xl hb; replace v0 := cell_keep v0 vl hb; replace v1 := cell_keep v1 vl hb; replace v2 := cell_keep v2 vl hb; replace vl := lt_keep vl hb; replace OW := Lib.hid (OW.out.keep hb); replace Ox := Lib.hid (Ox.out.keep hb); replace OG := Lib.hid (OG.out.keep hb); have hs8 := Lib.hid hb.size; replace B := Lib.hid (below_next B.out hb); clear hb Oy))
    go_wp2_with fail
    refine (markBoard_any _ _ _ _ _ _ 1 _ _ Ox.out (by omega) (by omega)).mono ?_
    rintro e wv ⟨rfl, O', hg⟩
    replace a0 := cell_mark a0 hg (row_ne fun b hb => by have := SPx.out b hb; have := hz.out; have := stu.out; have := stx.out; have := stv.out; have := hs1.out; have := hs2.out; have := hs3.out; have := hs4.out; have := hs5.out; have := hs6.out; have := hs7.out; have := hs8.out; omega)
    replace a1 := cell_mark a1 hg (row_ne fun b hb => by have := SPx.out b hb; have := hz.out; have := stu.out; have := stx.out; have := stv.out; have := hs1.out; have := hs2.out; have := hs3.out; have := hs4.out; have := hs5.out; have := hs6.out; have := hs7.out; have := hs8.out; omega)
    replace a2 := cell_mark a2 hg (row_ne fun b hb => by have := SPx.out b hb; have := hz.out; have := stu.out; have := stx.out; have := stv.out; have := hs1.out; have := hs2.out; have := hs3.out; have := hs4.out; have := hs5.out; have := hs6.out; have := hs7.out; have := hs8.out; omega)
    replace al := Nat.lt_of_lt_of_le al hg.size
    replace u0 := cell_mark u0 hg (row_ne fun b hb => by have := SPx.out b hb; have := hz.out; have := stu.out; have := stx.out; have := stv.out; have := hs1.out; have := hs2.out; have := hs3.out; have := hs4.out; have := hs5.out; have := hs6.out; have := hs7.out; have := hs8.out; omega)
    replace u1 := cell_mark u1 hg (row_ne fun b hb => by have := SPx.out b hb; have := hz.out; have := stu.out; have := stx.out; have := stv.out; have := hs1.out; have := hs2.out; have := hs3.out; have := hs4.out; have := hs5.out; have := hs6.out; have := hs7.out; have := hs8.out; omega)
    replace u2 := cell_mark u2 hg (row_ne fun b hb => by have := SPx.out b hb; have := hz.out; have := stu.out; have := stx.out; have := stv.out; have := hs1.out; have := hs2.out; have := hs3.out; have := hs4.out; have := hs5.out; have := hs6.out; have := hs7.out; have := hs8.out; omega)
    replace ul := Nat.lt_of_lt_of_le ul hg.size
    replace x0 := cell_mark x0 hg (row_ne fun b hb => by have := SPx.out b hb; have := hz.out; have := stu.out; have := stx.out; have := stv.out; have := hs1.out; have := hs2.out; have := hs3.out; have := hs4.out; have := hs5.out; have := hs6.out; have := hs7.out; have := hs8.out; omega)
    replace x1 := cell_mark x1 hg (row_ne fun b hb => by have := SPx.out b hb; have := hz.out; have := stu.out; have := stx.out; have := stv.out; have := hs1.out; have := hs2.out; have := hs3.out; have := hs4.out; have := hs5.out; have := hs6.out; have := hs7.out; have := hs8.out; omega)
    replace x2 := cell_mark x2 hg (row_ne fun b hb => by have := SPx.out b hb; have := hz.out; have := stu.out; have := stx.out; have := stv.out; have := hs1.out; have := hs2.out; have := hs3.out; have := hs4.out; have := hs5.out; have := hs6.out; have := hs7.out; have := hs8.out; omega)
    replace xl := Nat.lt_of_lt_of_le xl hg.size
    replace v0 := cell_mark v0 hg (row_ne fun b hb => by have := SPx.out b hb; have := hz.out; have := stu.out; have := stx.out; have := stv.out; have := hs1.out; have := hs2.out; have := hs3.out; have := hs4.out; have := hs5.out; have := hs6.out; have := hs7.out; have := hs8.out; omega)
    replace v1 := cell_mark v1 hg (row_ne fun b hb => by have := SPx.out b hb; have := hz.out; have := stu.out; have := stx.out; have := stv.out; have := hs1.out; have := hs2.out; have := hs3.out; have := hs4.out; have := hs5.out; have := hs6.out; have := hs7.out; have := hs8.out; omega)
    replace v2 := cell_mark v2 hg (row_ne fun b hb => by have := SPx.out b hb; have := hz.out; have := stu.out; have := stx.out; have := stv.out; have := hs1.out; have := hs2.out; have := hs3.out; have := hs4.out; have := hs5.out; have := hs6.out; have := hs7.out; have := hs8.out; omega)
    replace vl := Nat.lt_of_lt_of_le vl hg.size
    replace OW := Lib.hid (OW.out.other hg fun a ha => row_ne fun b hb => by have := SPW.out a ha; have := SPx.out b hb; have := hz.out; have := stu.out; have := stx.out; have := stv.out; have := hs1.out; have := hs2.out; have := hs3.out; have := hs4.out; have := hs5.out; have := hs6.out; have := hs7.out; have := hs8.out; omega)
    replace OG := Lib.hid (OG.out.other hg fun a ha => row_ne fun b hb => by have := SPG.out a ha; have := SPx.out b hb; have := hz.out; have := stu.out; have := stx.out; have := stv.out; have := hs1.out; have := hs2.out; have := hs3.out; have := hs4.out; have := hs5.out; have := hs6.out; have := hs7.out; have := hs8.out; omega)
    replace B := Lib.hid (B.out.grown hg B.out.size (row_ge fun b hb => by have := SPx.out b hb; have := hz.out; have := stu.out; have := stx.out; have := stv.out; have := hs1.out; have := hs2.out; have := hs3.out; have := hs4.out; have := hs5.out; have := hs6.out; have := hs7.out; have := hs8.out; omega))
    have hs9 := Lib.hid hg.size
    replace Ox := Lib.hid O'; clear O' hg
    go_wp2_with fail
    refine (eqBoard_any _ _ _ _ _ _ _ _ _ _ _ OG.out.rd OW.out.rd).mono ?_
    simp only [decide_true]
    rintro e wv ⟨rfl, hb⟩
    replace a0 := cell_keep a0 al hb
    replace a1 := cell_keep a1 al hb
    replace a2 := cell_keep a2 al hb
    replace al := lt_keep al hb
    replace u0 := cell_keep u0 ul hb
    replace u1 := cell_keep u1 ul hb
    replace u2 := cell_keep u2 ul hb
    replace ul := lt_keep ul hb
    replace x0 := cell_keep x0 xl hb
    replace x1 := cell_keep x1 xl hb
    replace x2 := cell_keep x2 xl hb
    replace xl := lt_keep xl hb
    replace v0 := cell_keep v0 vl hb
    replace v1 := cell_keep v1 vl hb
    replace v2 := cell_keep v2 vl hb
    replace vl := lt_keep vl hb
    replace OW := Lib.hid (OW.out.keep hb)
    replace Ox := Lib.hid (Ox.out.keep hb)
    replace OG := Lib.hid (OG.out.keep hb)
    have hs10 := Lib.hid hb.size
    replace B := Lib.hid (below_next B.out hb)
    clear hb
    go_wp2_with fail
    refine (markBoard_any _ _ _ _ _ _ 1 _ _ OG.out (by omega) (by have := SZ.out; omega)).mono ?_
    rintro e wv ⟨rfl, O', hg⟩
    replace a0 := cell_mark a0 hg (row_ne fun b hb => by have := SPG.out b hb; have := hz.out; have := stu.out; have := stx.out; have := stv.out; have := hs1.out; have := hs2.out; have := hs3.out; have := hs4.out; have := hs5.out; have := hs6.out; have := hs7.out; have := hs8.out; have := hs9.out; have := hs10.out; omega)
    replace a1 := cell_mark a1 hg (row_ne fun b hb => by have := SPG.out b hb; have := hz.out; have := stu.out; have := stx.out; have := stv.out; have := hs1.out; have := hs2.out; have := hs3.out; have := hs4.out; have := hs5.out; have := hs6.out; have := hs7.out; have := hs8.out; have := hs9.out; have := hs10.out; omega)
    replace a2 := cell_mark a2 hg (row_ne fun b hb => by have := SPG.out b hb; have := hz.out; have := stu.out; have := stx.out; have := stv.out; have := hs1.out; have := hs2.out; have := hs3.out; have := hs4.out; have := hs5.out; have := hs6.out; have := hs7.out; have := hs8.out; have := hs9.out; have := hs10.out; omega)
    replace al := Nat.lt_of_lt_of_le al hg.size
    replace u0 := cell_mark u0 hg (row_ne fun b hb => by have := SPG.out b hb; have := hz.out; have := stu.out; have := stx.out; have := stv.out; have := hs1.out; have := hs2.out; have := hs3.out; have := hs4.out; have := hs5.out; have := hs6.out; have := hs7.out; have := hs8.out; have := hs9.out; have := hs10.out; omega)
    replace u1 := cell_mark u1 hg (row_ne fun b hb => by have := SPG.out b hb; have := hz.out; have := stu.out; have := stx.out; have := stv.out; have := hs1.out; have := hs2.out; have := hs3.out; have := hs4.out; have := hs5.out; have := hs6.out; have := hs7.out; have := hs8.out; have := hs9.out; have := hs10.out; omega)
    replace u2 := cell_mark u2 hg (row_ne fun b hb => by have := SPG.out b hb; have := hz.out; have := stu.out; have := stx.out; have := stv.out; have := hs1.out; have := hs2.out; have := hs3.out; have := hs4.out; have := hs5.out; have := hs6.out; have := hs7.out; have := hs8.out; have := hs9.out; have := hs10.out; omega)
    replace ul := Nat.lt_of_lt_of_le ul hg.size
    replace x0 := cell_mark x0 hg (row_ne fun b hb => by have := SPG.out b hb; have := hz.out; have := stu.out; have := stx.out; have := stv.out; have := hs1.out; have := hs2.out; have := hs3.out; have := hs4.out; have := hs5.out; have := hs6.out; have := hs7.out; have := hs8.out; have := hs9.out; have := hs10.out; omega)
    replace x1 := cell_mark x1 hg (row_ne fun b hb => by have := SPG.out b hb; have := hz.out; have := stu.out; have := stx.out; have := stv.out; have := hs1.out; have := hs2.out; have := hs3.out; have := hs4.out; have := hs5.out; have := hs6.out; have := hs7.out; have := hs8.out; have := hs9.out; have := hs10.out; omega)
    replace x2 := cell_mark x2 hg (row_ne fun b hb => by have := SPG.out b hb; have := hz.out; have := stu.out; have := stx.out; have := stv.out; have := hs1.out; have := hs2.out; have := hs3.out; have := hs4.out; have := hs5.out; have := hs6.out; have := hs7.out; have := hs8.out; have := hs9.out; have := hs10.out; omega)
    replace xl := Nat.lt_of_lt_of_le xl hg.size
    replace v0 := cell_mark v0 hg (row_ne fun b hb => by have := SPG.out b hb; have := hz.out; have := stu.out; have := stx.out; have := stv.out; have := hs1.out; have := hs2.out; have := hs3.out; have := hs4.out; have := hs5.out; have := hs6.out; have := hs7.out; have := hs8.out; have := hs9.out; have := hs10.out; omega)
    replace v1 := cell_mark v1 hg (row_ne fun b hb => by have := SPG.out b hb; have := hz.out; have := stu.out; have := stx.out; have := stv.out; have := hs1.out; have := hs2.out; have := hs3.out; have := hs4.out; have := hs5.out; have := hs6.out; have := hs7.out; have := hs8.out; have := hs9.out; have := hs10.out; omega)
    replace v2 := cell_mark v2 hg (row_ne fun b hb => by have := SPG.out b hb; have := hz.out; have := stu.out; have := stx.out; have := stv.out; have := hs1.out; have := hs2.out; have := hs3.out; have := hs4.out; have := hs5.out; have := hs6.out; have := hs7.out; have := hs8.out; have := hs9.out; have := hs10.out; omega)
    replace vl := Nat.lt_of_lt_of_le vl hg.size
    replace OW := Lib.hid (OW.out.other hg fun a ha => row_ne fun b hb => by have := SPW.out a ha; have := SPG.out b hb; have := hz.out; have := stu.out; have := stx.out; have := stv.out; have := hs1.out; have := hs2.out; have := hs3.out; have := hs4.out; have := hs5.out; have := hs6.out; have := hs7.out; have := hs8.out; have := hs9.out; have := hs10.out; omega)
    replace Ox := Lib.hid (Ox.out.other hg fun a ha => row_ne fun b hb => by have := SPx.out a ha; have := SPG.out b hb; have := hz.out; have := stu.out; have := stx.out; have := stv.out; have := hs1.out; have := hs2.out; have := hs3.out; have := hs4.out; have := hs5.out; have := hs6.out; have := hs7.out; have := hs8.out; have := hs9.out; have := hs10.out; omega)
    replace B := Lib.hid (B.out.grown hg B.out.size (row_ge fun b hb => by have := SPG.out b hb; have := hz.out; have := stu.out; have := stx.out; have := stv.out; have := hs1.out; have := hs2.out; have := hs3.out; have := hs4.out; have := hs5.out; have := hs6.out; have := hs7.out; have := hs8.out; have := hs9.out; have := hs10.out; omega))
    have hs11 := Lib.hid hg.size
    replace OG := Lib.hid O'; clear O' hg
    go_wp2_with fail
    refine (heldBoard_any _ _ _ _ _ 1 _ OG.out.rd (by omega) (by have := SZ.out; omega)).mono ?_
    rintro e wv ⟨rfl, hb⟩
    replace a0 := cell_keep a0 al hb
    replace a1 := cell_keep a1 al hb
    replace a2 := cell_keep a2 al hb
    replace al := lt_keep al hb
    replace u0 := cell_keep u0 ul hb
    replace u1 := cell_keep u1 ul hb
    replace u2 := cell_keep u2 ul hb
    replace ul := lt_keep ul hb
    replace x0 := cell_keep x0 xl hb
    replace x1 := cell_keep x1 xl hb
    replace x2 := cell_keep x2 xl hb
    replace xl := lt_keep xl hb
    replace v0 := cell_keep v0 vl hb
    replace v1 := cell_keep v1 vl hb
    replace v2 := cell_keep v2 vl hb
    replace vl := lt_keep vl hb
    replace OW := Lib.hid (OW.out.keep hb)
    replace Ox := Lib.hid (Ox.out.keep hb)
    replace OG := Lib.hid (OG.out.keep hb)
    have hs12 := Lib.hid hb.size
    replace B := Lib.hid (below_next B.out hb)
    clear hb
    go_wp2_with fail
    refine (toBoard_any _ _ _ _ _ _ _ (ha0.keep B.out) (by omega)).mono ?_
    rintro e wv ⟨gz, rfl, ownz, hb⟩
    replace a0 := cell_keep a0 al hb
    replace a1 := cell_keep a1 al hb
    replace a2 := cell_keep a2 al hb
    replace al := lt_keep al hb
    replace u0 := cell_keep u0 ul hb
    replace u1 := cell_keep u1 ul hb
    replace u2 := cell_keep u2 ul hb
    replace ul := lt_keep ul hb
    replace x0 := cell_keep x0 xl hb
    replace x1 := cell_keep x1 xl hb
    replace x2 := cell_keep x2 xl hb
    replace xl := lt_keep xl hb
    replace v0 := cell_keep v0 vl hb
    replace v1 := cell_keep v1 vl hb
    replace v2 := cell_keep v2 vl hb
    replace vl := lt_keep vl hb
    replace OW := Lib.hid (OW.out.keep hb)
    replace Ox := Lib.hid (Ox.out.keep hb)
    replace OG := Lib.hid (OG.out.keep hb)
    have hs13 := Lib.hid hb.size
    replace B := Lib.hid (below_next B.out hb)
    have Oz := Lib.hid ownz; have SPz := Lib.hid ownz.span; clear ownz
    clear hb
    go_wp2_with fail
    refine (impl_MirrorBoard _ _ _ _ _ _ _ Oz.out.rd).mono ?_
    rintro e wv ⟨AH, nH, cH, rfl, ownH, hb⟩
    replace a0 := cell_keep a0 al hb
    replace a1 := cell_keep a1 al hb
    replace a2 := cell_keep a2 al hb
    replace al := lt_keep al hb
    replace u0 := cell_keep u0 ul hb
    replace u1 := cell_keep u1 ul hb
    replace u2 := cell_keep u2 ul hb
    replace ul := lt_keep ul hb
    replace x0 := cell_keep x0 xl hb
    replace x1 := cell_keep x1 xl hb
    replace x2 := cell_keep x2 xl hb
    replace xl := lt_keep xl hb
    replace v0 := cell_keep v0 vl hb
    replace v1 := cell_keep v1 vl hb
    replace v2 := cell_keep v2 vl hb
    replace vl := lt_keep vl hb
    replace OW := Lib.hid (OW.out.keep hb)
    replace Ox := Lib.hid (Ox.out.keep hb)
    replace OG := Lib.hid (OG.out.keep hb)
    have hs14 := Lib.hid hb.size
    replace B := Lib.hid (below_next B.out hb)
    have OH := Lib.hid ownH; have SPH := Lib.hid ownH.span; clear ownH
    clear hb
    clear Oz SPz
    obtain ⟨woh, hwoh⟩ : ∃ wx, wx = wv := ⟨_, rfl⟩
    subst hwoh
    go_wp2_with fail
    refine (eqBoard_any _ _ _ _ _ _ _ _ _ _ _ (OH.out.rd.alloc _) (OW.out.rd.alloc _)).mono ?_
    simp only [decide_true]
    rintro e wv ⟨rfl, hb⟩
    have h0 : wv.cell? ⟨woh.heap.size, 0, none⟩ = some (.int .i64 (MirrorBoard_w V0 G0 xs0)) := by simpa using newbox hb 0
    have h1 : wv.cell? ⟨woh.heap.size, 1, none⟩ = some (.int .i64 (MirrorBoard_h V0 G0 xs0)) := by simpa using newbox hb 1
    have h2 : wv.cell? ⟨woh.heap.size, 2, none⟩ = some (.slice AH nH cH) := by simpa using newbox hb 2
    have hl := newbox_lt hb
    have sth := Lib.hid hl
    replace hb := below_box hb
    replace a0 := cell_keep a0 al hb
    replace a1 := cell_keep a1 al hb
    replace a2 := cell_keep a2 al hb
    replace al := lt_keep al hb
    replace u0 := cell_keep u0 ul hb
    replace u1 := cell_keep u1 ul hb
    replace u2 := cell_keep u2 ul hb
    replace ul := lt_keep ul hb
    replace x0 := cell_keep x0 xl hb
    replace x1 := cell_keep x1 xl hb
    replace x2 := cell_keep x2 xl hb
    replace xl := lt_keep xl hb
    replace v0 := cell_keep v0 vl hb
    replace v1 := cell_keep v1 vl hb
    replace v2 := cell_keep v2 vl hb
    replace vl := lt_keep vl hb
    replace OW := Lib.hid (OW.out.keep hb)
    replace Ox := Lib.hid (Ox.out.keep hb)
    replace OG := Lib.hid (OG.out.keep hb)
    replace OH := Lib.hid (OH.out.keep hb)
    have hs15 := Lib.hid hb.size
    replace B := Lib.hid (below_next B.out hb)
    generalize hkh : woh.heap.size = kh at *
    clear hb
    go_wp2_with fail
    refine (heldBoard_any _ _ _ _ _ 1 _ OG.out.rd (by omega) (by have := SZ.out; omega)).mono ?_
    rintro e wv ⟨rfl, hb⟩
    replace a0 := cell_keep a0 al hb
    replace a1 := cell_keep a1 al hb
    replace a2 := cell_keep a2 al hb
    replace al := lt_keep al hb
    replace u0 := cell_keep u0 ul hb
    replace u1 := cell_keep u1 ul hb
    replace u2 := cell_keep u2 ul hb
    replace ul := lt_keep ul hb
    replace x0 := cell_keep x0 xl hb
    replace x1 := cell_keep x1 xl hb
    replace x2 := cell_keep x2 xl hb
    replace xl := lt_keep xl hb
    replace v0 := cell_keep v0 vl hb
    replace v1 := cell_keep v1 vl hb
    replace v2 := cell_keep v2 vl hb
    replace vl := lt_keep vl hb
    replace h0 := cell_keep h0 hl hb
    replace h1 := cell_keep h1 hl hb
    replace h2 := cell_keep h2 hl hb
    replace hl := lt_keep hl hb
    replace OW := Lib.hid (OW.out.keep hb)
    replace Ox := Lib.hid (Ox.out.keep hb)
    replace OG := Lib.hid (OG.out.keep hb)
    replace OH := Lib.hid (OH.out.keep hb)
    have hs16 := Lib.hid hb.size
    replace B := Lib.hid (below_next B.out hb)
    clear hb
    go_wp2
    go_ret
    exact ⟨rfl, B.out⟩

end Go.Proofs.Ytmghjohpmlhdlaa
