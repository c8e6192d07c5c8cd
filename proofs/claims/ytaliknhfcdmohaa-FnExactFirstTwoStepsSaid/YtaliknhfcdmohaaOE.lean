/-
  Contracts: the two steps that are asked for, in the program.
-/
import Derived.Test.YtaliknhfcdmohaaO3
import Derived.Test.YtaliknhfcdmohaaO4
import Derived.Test.YtaliknhfcdmohaaO9
import Derived.Test.YtaliknhfcdmohaaOB
import Derived.Test.YtaliknhfcdmohaaS4
namespace Go.Proofs.Ytaliknhfcdmohaa
open Go.RowKit

theorem two_set {w : World} {gr gq : Nat} {x0 y0 u0 v0 : Int} (hr : SpotBox w gr x0 y0) (hq : SpotBox w gq u0 v0) (hne : gr ≠ gq) (x y u v : Int) :
    SpotBox ((((w.setCell ⟨gr, 0, none⟩ (.int .i64 x)).setCell ⟨gr, 1, none⟩ (.int .i64 y)).setCell ⟨gq, 0, none⟩ (.int .i64 u)).setCell ⟨gq, 1, none⟩ (.int .i64 v)) gr x y ∧
    SpotBox ((((w.setCell ⟨gr, 0, none⟩ (.int .i64 x)).setCell ⟨gr, 1, none⟩ (.int .i64 y)).setCell ⟨gq, 0, none⟩ (.int .i64 u)).setCell ⟨gq, 1, none⟩ (.int .i64 v)) gq u v :=
  ⟨((hr.set x y).grown (grown_next (grownSet _ ⟨gq, 0, none⟩ _) (grownSet _ ⟨gq, 1, none⟩ _)) (by simp; exact hne)),
   ((hq.grown (grown_next (grownSet _ ⟨gr, 0, none⟩ _) (grownSet _ ⟨gr, 1, none⟩ _)) (by simp; exact fun h => hne h.symm)).set u v)⟩
def stepO (W H a b f s t : Int) (k : Int) : Int × Int := if okT W H a b f s t then stepN a b k else (0, 0)

set_option maxRecDepth 100000 in
set_option maxHeartbeats 2000000 in
theorem twoStepsOf_any (W H : Int) (ac up : Bool) (a b f s t : Int) (w : World) :
    Calls Try.prog 79 #[ard W H ac up, lpr a b, .int .i64 f, .int .i64 s, .int .i64 t] w fun e w' => e = .returned (.tuple #[lpr (stepO W H a b f s t f).1 (stepO W H a b f s t f).2, lpr (stepO W H a b f s t s).1 (stepO W H a b f s t s).2, .bool (okT W H a b f s t)]) ∧ Below w.heap.size w w' := by
  obtain ⟨W2, hW2⟩ : ∃ W2, W2 = (((w.alloc (.cells #[.int .i64 W, .int .i64 H, .bool ac, .bool up] 25)).alloc (.cells #[.int .i64 a, .int .i64 b] 36)).alloc (.cells #[.int .i64 0, .int .i64 0] 59)).alloc (.cells #[.int .i64 0, .int .i64 0] 59) := ⟨_, rfl⟩
  have hsz : W2.heap.size = w.heap.size + 4 := by rw [hW2]; simp
  have a0 : W2.cell? ⟨w.heap.size, 0, none⟩ = some (.int .i64 W) := by rw [hW2]; go_simp
  have a1 : W2.cell? ⟨w.heap.size, 1, none⟩ = some (.int .i64 H) := by rw [hW2]; go_simp
  have a2 : W2.cell? ⟨w.heap.size, 2, none⟩ = some (.bool ac) := by rw [hW2]; go_simp
  have a3 : W2.cell? ⟨w.heap.size, 3, none⟩ = some (.bool up) := by rw [hW2]; go_simp
  have al : w.heap.size < W2.heap.size := by omega
  have l0 : W2.cell? ⟨w.heap.size + 1, 0, none⟩ = some (.int .i64 a) := by rw [hW2]; go_simp
  have l1 : W2.cell? ⟨w.heap.size + 1, 1, none⟩ = some (.int .i64 b) := by rw [hW2]; go_simp
  have ll : w.heap.size + 1 < W2.heap.size := by omega
  have B := Lib.hid (show Below w.heap.size w W2 by rw [hW2]; repeat (first | exact Below.refl _ _ | refine below_new ?_ _))
  obtain ⟨gr, hgr⟩ : ∃ gr, gr = w.heap.size + 1 + 1 := ⟨_, rfl⟩
  obtain ⟨gq, hgq⟩ : ∃ gq, gq = w.heap.size + 1 + 1 + 1 := ⟨_, rfl⟩
  have RB := Lib.hid (show SpotBox W2 gr 0 0 by
    have h := heap_alloc_new ((w.alloc (.cells #[.int .i64 W, .int .i64 H, .bool ac, .bool up] 25)).alloc (.cells #[.int .i64 a, .int .i64 b] 36)) (.cells #[.int .i64 0, .int .i64 0] 59)
    rw [hgr, hW2, show w.heap.size + 1 + 1 = ((w.alloc (.cells #[.int .i64 W, .int .i64 H, .bool ac, .bool up] 25)).alloc (.cells #[.int .i64 a, .int .i64 b] 36)).heap.size by simp]
    exact (below_new (Below.refl _ _) _).block _ (by simp) |>.trans h)
  have QB := Lib.hid (show SpotBox W2 gq 0 0 by
    rw [hgq, hW2, show w.heap.size + 1 + 1 + 1 = (((w.alloc (.cells #[.int .i64 W, .int .i64 H, .bool ac, .bool up] 25)).alloc (.cells #[.int .i64 a, .int .i64 b] 36)).alloc (.cells #[.int .i64 0, .int .i64 0] 59)).heap.size by simp]
    exact heap_alloc_new _ _)
  have hgr1 : w.heap.size + 1 < gr := by omega
  have hgr2 : gr < gq := by omega
  have HE := Lib.hid (show (leaperB a b && aroundB W H []) = twoA W H a b by rw [aroundB_nil]; rfl)
  have HGR := Lib.hid hgr; have HGQ := Lib.hid (show gr + 1 = gq by omega)
  clear hgr hgq hsz
  cases ht : twoA W H a b
  · have OK := Lib.hid (show okT W H a b f s t = false by rw [Bool.eq_false_iff]; intro h; have h2 := okT_iff.1 h; rw [twoA_iff.2 ⟨h2.1, h2.2.1⟩] at ht; cases ht)
    go_enter Try.func79, Try.ntmps79
    go_wp2_with fail
    rw [← hW2]
    clear hW2
    rw [show w.heap.size + 1 + 1 = gr from HGR.out.symm, show gr + 1 = gq from HGQ.out]
    refine (isLeaperAround_any W H ac up a b none 0 0 [] _ (Rd.nil _ _)).mono ?_
    rw [HE.out, ht]
    rintro e wv ⟨rfl, hb⟩
    replace a0 := cell_keep a0 al hb
    replace a1 := cell_keep a1 al hb
    replace a2 := cell_keep a2 al hb
    replace a3 := cell_keep a3 al hb
    replace al := lt_keep al hb
    replace l0 := cell_keep l0 ll hb
    replace l1 := cell_keep l1 ll hb
    replace ll := lt_keep ll hb
    replace RB := Lib.hid (RB.out.keep hb)
    replace QB := Lib.hid (QB.out.keep hb)
    replace B := Lib.hid (below_next B.out hb)
    clear hb
    clear HE
    have r0 := RB.out.c0; have r1 := RB.out.c1; have q0 := QB.out.c0; have q1 := QB.out.c1
    have z0 := frozen_of_row wv gr 0 _ _ RB.out; have z1 := frozen_of_row wv gr 1 _ _ RB.out; have z2 := frozen_of_row wv gq 0 _ _ QB.out; have z3 := frozen_of_row wv gq 1 _ _ QB.out
    clear a0 a1 a2 a3 l0 l1 al ll
    go_wp2
    obtain ⟨hs1, hs2⟩ := two_set RB.out QB.out (by omega) 0 0 0 0
    obtain ⟨W6, hW6⟩ : ∃ W6, W6 = (((wv.setCell ⟨gr, 0, none⟩ (.int .i64 0)).setCell ⟨gr, 1, none⟩ (.int .i64 0)).setCell ⟨gq, 0, none⟩ (.int .i64 0)).setCell ⟨gq, 1, none⟩ (.int .i64 0) := ⟨_, rfl⟩
    have B6 := Lib.hid (show Below w.heap.size w W6 by rw [hW6]; exact Below.setCell (Below.setCell (Below.setCell (Below.setCell B.out (p := ⟨gr, 0, none⟩) (by simp; omega) _) (p := ⟨gr, 1, none⟩) (by simp; omega) _) (p := ⟨gq, 0, none⟩) (by simp; omega) _) (p := ⟨gq, 1, none⟩) (by simp; omega) _)
    rw [← hW6] at hs1 hs2 ⊢
    have c0 := hs1.c0; have c1 := hs1.c1; have c2 := hs2.c0; have c3 := hs2.c1
    clear hW6
    exact bodyPost_ret (v := .tuple #[lpr 0 0, lpr 0 0, .bool false]) (by simp [results, Try.results79, go_sem, c0, c1, c2, c3]) rfl ⟨by rw [stepO, stepO, OK.out]; rfl, B6.out⟩
  have HT := Lib.hid (twoA_iff.1 ht)
  by_cases t1 : t < 2
  · have OK := Lib.hid (show okT W H a b f s t = false by rw [Bool.eq_false_iff]; intro h; have h2 := okT_iff.1 h; omega)
    go_enter Try.func79, Try.ntmps79
    go_wp2_with fail
    rw [← hW2]
    clear hW2
    rw [show w.heap.size + 1 + 1 = gr from HGR.out.symm, show gr + 1 = gq from HGQ.out]
    refine (isLeaperAround_any W H ac up a b none 0 0 [] _ (Rd.nil _ _)).mono ?_
    rw [HE.out, ht]
    rintro e wv ⟨rfl, hb⟩
    replace a0 := cell_keep a0 al hb
    replace a1 := cell_keep a1 al hb
    replace a2 := cell_keep a2 al hb
    replace a3 := cell_keep a3 al hb
    replace al := lt_keep al hb
    replace l0 := cell_keep l0 ll hb
    replace l1 := cell_keep l1 ll hb
    replace ll := lt_keep ll hb
    replace RB := Lib.hid (RB.out.keep hb)
    replace QB := Lib.hid (QB.out.keep hb)
    replace B := Lib.hid (below_next B.out hb)
    clear hb
    clear HE
    have r0 := RB.out.c0; have r1 := RB.out.c1; have q0 := QB.out.c0; have q1 := QB.out.c1
    have z0 := frozen_of_row wv gr 0 _ _ RB.out; have z1 := frozen_of_row wv gr 1 _ _ RB.out; have z2 := frozen_of_row wv gq 0 _ _ QB.out; have z3 := frozen_of_row wv gq 1 _ _ QB.out
    clear a0 a1 a2 a3 l0 l1 al ll
    go_wp2
    obtain ⟨hs1, hs2⟩ := two_set RB.out QB.out (by omega) 0 0 0 0
    obtain ⟨W6, hW6⟩ : ∃ W6, W6 = (((wv.setCell ⟨gr, 0, none⟩ (.int .i64 0)).setCell ⟨gr, 1, none⟩ (.int .i64 0)).setCell ⟨gq, 0, none⟩ (.int .i64 0)).setCell ⟨gq, 1, none⟩ (.int .i64 0) := ⟨_, rfl⟩
    have B6 := Lib.hid (show Below w.heap.size w W6 by rw [hW6]; exact Below.setCell (Below.setCell (Below.setCell (Below.setCell B.out (p := ⟨gr, 0, none⟩) (by simp; omega) _) (p := ⟨gr, 1, none⟩) (by simp; omega) _) (p := ⟨gq, 0, none⟩) (by simp; omega) _) (p := ⟨gq, 1, none⟩) (by simp; omega) _)
    rw [← hW6] at hs1 hs2 ⊢
    have c0 := hs1.c0; have c1 := hs1.c1; have c2 := hs2.c0; have c3 := hs2.c1
    clear hW6
    exact bodyPost_ret (v := .tuple #[lpr 0 0, lpr 0 0, .bool false]) (by simp [results, Try.results79, go_sem, c0, c1, c2, c3]) rfl ⟨by rw [stepO, stepO, OK.out]; rfl, B6.out⟩
  by_cases t2 : 150 < t
  · have OK := Lib.hid (show okT W H a b f s t = false by rw [Bool.eq_false_iff]; intro h; have h2 := okT_iff.1 h; omega)
    go_enter Try.func79, Try.ntmps79
    go_wp2_with fail
    rw [← hW2]
    clear hW2
    rw [show w.heap.size + 1 + 1 = gr from HGR.out.symm, show gr + 1 = gq from HGQ.out]
    refine (isLeaperAround_any W H ac up a b none 0 0 [] _ (Rd.nil _ _)).mono ?_
    rw [HE.out, ht]
    rintro e wv ⟨rfl, hb⟩
    replace a0 := cell_keep a0 al hb
    replace a1 := cell_keep a1 al hb
    replace a2 := cell_keep a2 al hb
    replace a3 := cell_keep a3 al hb
    replace al := lt_keep al hb
    replace l0 := cell_keep l0 ll hb
    replace l1 := cell_keep l1 ll hb
    replace ll := lt_keep ll hb
    replace RB := Lib.hid (RB.out.keep hb)
    replace QB := Lib.hid (QB.out.keep hb)
    replace B := Lib.hid (below_next B.out hb)
    clear hb
    clear HE
    have r0 := RB.out.c0; have r1 := RB.out.c1; have q0 := QB.out.c0; have q1 := QB.out.c1
    have z0 := frozen_of_row wv gr 0 _ _ RB.out; have z1 := frozen_of_row wv gr 1 _ _ RB.out; have z2 := frozen_of_row wv gq 0 _ _ QB.out; have z3 := frozen_of_row wv gq 1 _ _ QB.out
    clear a0 a1 a2 a3 l0 l1 al ll
    go_wp2
    obtain ⟨hs1, hs2⟩ := two_set RB.out QB.out (by omega) 0 0 0 0
    obtain ⟨W6, hW6⟩ : ∃ W6, W6 = (((wv.setCell ⟨gr, 0, none⟩ (.int .i64 0)).setCell ⟨gr, 1, none⟩ (.int .i64 0)).setCell ⟨gq, 0, none⟩ (.int .i64 0)).setCell ⟨gq, 1, none⟩ (.int .i64 0) := ⟨_, rfl⟩
    have B6 := Lib.hid (show Below w.heap.size w W6 by rw [hW6]; exact Below.setCell (Below.setCell (Below.setCell (Below.setCell B.out (p := ⟨gr, 0, none⟩) (by simp; omega) _) (p := ⟨gr, 1, none⟩) (by simp; omega) _) (p := ⟨gq, 0, none⟩) (by simp; omega) _) (p := ⟨gq, 1, none⟩) (by simp; omega) _)
    rw [← hW6] at hs1 hs2 ⊢
    have c0 := hs1.c0; have c1 := hs1.c1; have c2 := hs2.c0; have c3 := hs2.c1
    clear hW6
    exact bodyPost_ret (v := .tuple #[lpr 0 0, lpr 0 0, .bool false]) (by simp [results, Try.results79, go_sem, c0, c1, c2, c3]) rfl ⟨by rw [stepO, stepO, OK.out]; rfl, B6.out⟩
  go_enter Try.func79, Try.ntmps79
  go_wp2_with fail
  rw [← hW2]
  clear hW2
  rw [show w.heap.size + 1 + 1 = gr from HGR.out.symm, show gr + 1 = gq from HGQ.out]
  refine (isLeaperAround_any W H ac up a b none 0 0 [] _ (Rd.nil _ _)).mono ?_
  rw [HE.out, ht]
  rintro e wv ⟨rfl, hb⟩
  replace a0 := cell_keep a0 al hb
  replace a1 := cell_keep a1 al hb
  replace a2 := cell_keep a2 al hb
  replace a3 := cell_keep a3 al hb
  replace al := lt_keep al hb
  replace l0 := cell_keep l0 ll hb
  replace l1 := cell_keep l1 ll hb
  replace ll := lt_keep ll hb
  replace RB := Lib.hid (RB.out.keep hb)
  replace QB := Lib.hid (QB.out.keep hb)
  replace B := Lib.hid (below_next B.out hb)
  clear hb
  clear HE
  have hql := QB.out.lt
  have HQL := Lib.hid hql
  clear hql
  go_wp2_with fail
  refine (stepsOf_any a b _ HT.out.1).mono ?_
  rintro e wv ⟨AS, n1, c1, rfl, hst, hb⟩
  replace a0 := cell_keep a0 al hb
  replace a1 := cell_keep a1 al hb
  replace a2 := cell_keep a2 al hb
  replace a3 := cell_keep a3 al hb
  replace al := lt_keep al hb
  replace l0 := cell_keep l0 ll hb
  replace l1 := cell_keep l1 ll hb
  replace ll := lt_keep ll hb
  replace RB := Lib.hid (RB.out.keep hb)
  replace QB := Lib.hid (QB.out.keep hb)
  replace B := Lib.hid (below_next B.out hb)
  clear hb
  have ST := Lib.hid hst; have SL := Lib.hid hst.len
  have HLA := Lib.hid (show lenA a b = (n1 : Int) by rw [lenA, hst.len])
  have n8 : n1 ≤ 8 := by have := stepsL_len HT.out.1; have := hst.len; omega
  clear hst
  have hn8 : (n1 : Int) ≤ 8 := by omega
  by_cases hfs : f ≤ s
  · have hmn : min f s = f := by omega
    have hmx : max f s = s := by omega
    by_cases c0 : f < 0
    · have OK := Lib.hid (show okT W H a b f s t = false by rw [Bool.eq_false_iff]; intro h; have h2 := okT_iff.1 h; have := HLA.out; omega)
      have r0 := RB.out.c0; have r1 := RB.out.c1; have q0 := QB.out.c0; have q1 := QB.out.c1
      have z0 := frozen_of_row wv gr 0 _ _ RB.out; have z1 := frozen_of_row wv gr 1 _ _ RB.out; have z2 := frozen_of_row wv gq 0 _ _ QB.out; have z3 := frozen_of_row wv gq 1 _ _ QB.out
      clear a0 a1 a2 a3 l0 l1 al ll
      go_wp2
      obtain ⟨hs1, hs2⟩ := two_set RB.out QB.out (by omega) 0 0 0 0
      obtain ⟨W6, hW6⟩ : ∃ W6, W6 = (((wv.setCell ⟨gr, 0, none⟩ (.int .i64 0)).setCell ⟨gr, 1, none⟩ (.int .i64 0)).setCell ⟨gq, 0, none⟩ (.int .i64 0)).setCell ⟨gq, 1, none⟩ (.int .i64 0) := ⟨_, rfl⟩
      have B6 := Lib.hid (show Below w.heap.size w W6 by rw [hW6]; exact Below.setCell (Below.setCell (Below.setCell (Below.setCell B.out (p := ⟨gr, 0, none⟩) (by simp; omega) _) (p := ⟨gr, 1, none⟩) (by simp; omega) _) (p := ⟨gq, 0, none⟩) (by simp; omega) _) (p := ⟨gq, 1, none⟩) (by simp; omega) _)
      rw [← hW6] at hs1 hs2 ⊢
      have c0 := hs1.c0; have c1 := hs1.c1; have c2 := hs2.c0; have c3 := hs2.c1
      clear hW6
      exact bodyPost_ret (v := .tuple #[lpr 0 0, lpr 0 0, .bool false]) (by simp [results, Try.results79, go_sem, c0, c1, c2, c3]) rfl ⟨by rw [stepO, stepO, OK.out]; rfl, B6.out⟩
    by_cases c1 : (n1 : Int) ≤ s
    · have OK := Lib.hid (show okT W H a b f s t = false by rw [Bool.eq_false_iff]; intro h; have h2 := okT_iff.1 h; have := HLA.out; omega)
      have r0 := RB.out.c0; have r1 := RB.out.c1; have q0 := QB.out.c0; have q1 := QB.out.c1
      have z0 := frozen_of_row wv gr 0 _ _ RB.out; have z1 := frozen_of_row wv gr 1 _ _ RB.out; have z2 := frozen_of_row wv gq 0 _ _ QB.out; have z3 := frozen_of_row wv gq 1 _ _ QB.out
      clear a0 a1 a2 a3 l0 l1 al ll
      go_wp2
      obtain ⟨hs1, hs2⟩ := two_set RB.out QB.out (by omega) 0 0 0 0
      obtain ⟨W6, hW6⟩ : ∃ W6, W6 = (((wv.setCell ⟨gr, 0, none⟩ (.int .i64 0)).setCell ⟨gr, 1, none⟩ (.int .i64 0)).setCell ⟨gq, 0, none⟩ (.int .i64 0)).setCell ⟨gq, 1, none⟩ (.int .i64 0) := ⟨_, rfl⟩
      have B6 := Lib.hid (show Below w.heap.size w W6 by rw [hW6]; exact Below.setCell (Below.setCell (Below.setCell (Below.setCell B.out (p := ⟨gr, 0, none⟩) (by simp; omega) _) (p := ⟨gr, 1, none⟩) (by simp; omega) _) (p := ⟨gq, 0, none⟩) (by simp; omega) _) (p := ⟨gq, 1, none⟩) (by simp; omega) _)
      rw [← hW6] at hs1 hs2 ⊢
      have c0 := hs1.c0; have c1 := hs1.c1; have c2 := hs2.c0; have c3 := hs2.c1
      clear hW6
      exact bodyPost_ret (v := .tuple #[lpr 0 0, lpr 0 0, .bool false]) (by simp [results, Try.results79, go_sem, c0, c1, c2, c3]) rfl ⟨by rw [stepO, stepO, OK.out]; rfl, B6.out⟩
    · have OK := Lib.hid (show okT W H a b f s t = true from okT_iff.2 ⟨HT.out.1, HT.out.2, by have := HLA.out; omega, by have := HLA.out; omega, by omega⟩)
      have HF := Lib.hid (stepN_at (a := a) (b := b) (f := f) (by have := HLA.out; omega)); have HS := Lib.hid (stepN_at (a := a) (b := b) (f := s) (by have := HLA.out; omega))
      obtain ⟨⟨dx1, dy1⟩, hp1⟩ : ∃ p, stepN a b f = p := ⟨_, rfl⟩
      obtain ⟨⟨dx2, dy2⟩, hp2⟩ : ∃ p, stepN a b s = p := ⟨_, rfl⟩
      rw [hp1] at HF
      rw [hp2] at HS
      have HP1 := Lib.hid hp1; have HP2 := Lib.hid hp2
      clear hp1 hp2
      obtain ⟨fn, rfl⟩ : ∃ fn : Nat, f = (fn : Int) := ⟨f.toNat, by omega⟩
      obtain ⟨sn, rfl⟩ : ∃ sn : Nat, s = (sn : Int) := ⟨s.toNat, by omega⟩
      simp only [Int.toNat_natCast] at HF HS
      obtain ⟨g1, rfl, hlo1, hg1⟩ := ST.out.some_ (i := fn) (by omega)
      have hgne : gq < g1 := Nat.lt_of_lt_of_le HQL.out hlo1
      clear hlo1
      obtain ⟨x0, x1⟩ := pair_at ST.out HF.out
      obtain ⟨y0, y1⟩ := pair_at ST.out HS.out
      simp only at x0 x1 y0 y1
      have hfi : (fn : Int) < (n1 : Int) := by omega
      have hsi : (sn : Int) < (n1 : Int) := by omega
      have hf0 : (0 : Int) ≤ (fn : Int) := by omega
      have hs0 : (0 : Int) ≤ (sn : Int) := by omega
      clear a0 a1 a2 a3 l0 l1 al ll
      go_wp2_with fail
      refine wp_region_held_drew (S := fun w' => w'.cell? ⟨g1, fn * 2, none⟩ = some (.int .i64 dx1) ∧ w'.cell? ⟨g1, fn * 2 + 1, none⟩ = some (.int .i64 dy1) ∧ w'.cell? ⟨g1, sn * 2, none⟩ = some (.int .i64 dx2) ∧ w'.cell? ⟨g1, sn * 2 + 1, none⟩ = some (.int .i64 dy2)) (by kernel_rfl) ?_ (fun hHeld => ?_)
      · (try dsimp only)
        exact ⟨x0, x1, y0, y1⟩
      refine wpAnyH_take (i := 0) (oi := ⟨_, _, _, _, _, _⟩) (v := ?_) rfl (by kernel_rfl) (by kernel_rfl) (by kernel_rfl) (fun _ _ _ h => h) (Or.inl ⟨by rfl, ?_⟩) (by assumption) ?_
      rotate_left
      · intro w hSw
        (try dsimp only at hSw)
        go_simp
        (try with_reducible rfl)
      (try simp only [Act.put, List.setIfInBounds_toArray, List.set_cons_zero, List.set_cons_succ])
      refine wpAnyH_take (i := 1) (oi := ⟨_, _, _, _, _, _⟩) (v := ?_) rfl (by kernel_rfl) (by kernel_rfl) (by kernel_rfl) (fun _ _ _ h => h) (Or.inl ⟨by rfl, ?_⟩) (by assumption) ?_
      rotate_left
      · intro w hSw
        (try dsimp only at hSw)
        go_simp
        (try with_reducible rfl)
      (try simp only [Act.put, List.setIfInBounds_toArray, List.set_cons_zero, List.set_cons_succ])
      refine wpAnyH_take (i := 4) (oi := ⟨_, _, _, _, _, _⟩) (v := ?_) rfl (by kernel_rfl) (by kernel_rfl) (by kernel_rfl) (fun _ _ _ h => h) (Or.inl ⟨by rfl, ?_⟩) (by assumption) ?_
      rotate_left
      · intro w hSw
        (try dsimp only at hSw)
        go_simp
        (try with_reducible rfl)
      (try simp only [Act.put, List.setIfInBounds_toArray, List.set_cons_zero, List.set_cons_succ])
      refine wpAnyH_take (i := 5) (oi := ⟨_, _, _, _, _, _⟩) (v := ?_) rfl (by kernel_rfl) (by kernel_rfl) (by kernel_rfl) (fun _ _ _ h => h) (Or.inl ⟨by rfl, ?_⟩) (by assumption) ?_
      rotate_left
      · intro w hSw
        (try dsimp only at hSw)
        go_simp
        (try with_reducible rfl)
      (try simp only [Act.put, List.setIfInBounds_toArray, List.set_cons_zero, List.set_cons_succ])
      refine wpAnyH_take (i := 2) (oi := ⟨_, _, _, _, _, _⟩) (v := ?_) rfl (by kernel_rfl) (by kernel_rfl) (by kernel_rfl) (fun _ _ _ h => h) (Or.inl ⟨by rfl, ?_⟩) (by assumption) ?_
      rotate_left
      · intro w hSw
        (try dsimp only at hSw)
        go_simp
        (try with_reducible rfl)
      (try simp only [Act.put, List.setIfInBounds_toArray, List.set_cons_zero, List.set_cons_succ])
      refine wpAnyH_take (i := 6) (oi := ⟨_, _, _, _, _, _⟩) (v := ?_) rfl (by kernel_rfl) (by kernel_rfl) (by kernel_rfl) (fun _ _ _ h => h) (Or.inl ⟨by rfl, ?_⟩) (by assumption) ?_
      rotate_left
      · intro w hSw
        (try dsimp only at hSw)
        go_simp
        (try with_reducible rfl)
      (try simp only [Act.put, List.setIfInBounds_toArray, List.set_cons_zero, List.set_cons_succ])
      refine wpAnyH_take (i := 3) (oi := ⟨_, _, _, _, _, _⟩) (v := ?_) rfl (by kernel_rfl) (by kernel_rfl) (by kernel_rfl) (fun _ _ _ h => h) (Or.inl ⟨by rfl, ?_⟩) (by assumption) ?_
      rotate_left
      · intro w hSw
        (try dsimp only at hSw)
        go_simp
        (try with_reducible rfl)
      (try simp only [Act.put, List.setIfInBounds_toArray, List.set_cons_zero, List.set_cons_succ])
      refine wpAnyH_take (i := 7) (oi := ⟨_, _, _, _, _, _⟩) (v := ?_) rfl (by kernel_rfl) (by kernel_rfl) (by kernel_rfl) (fun _ _ _ h => h) (Or.inl ⟨by rfl, ?_⟩) (by assumption) ?_
      rotate_left
      · intro w hSw
        (try dsimp only at hSw)
        go_simp
        (try with_reducible rfl)
      (try simp only [Act.put, List.setIfInBounds_toArray, List.set_cons_zero, List.set_cons_succ])
      refine wpAnyH_ready (rs := [8]) (by kernel_rfl) (by simp) ?_
      refine AllReadyH.cons (o := ⟨_, _, _, _, _, _⟩) rfl (fun K hK => ?_) AllReadyH.nil
      have z0 := RB.out.c0; have z1 := RB.out.c1
      have f0 : wv.frozen? ⟨gr, 0, none⟩ = false := frozen_of_row wv _ 0 _ _ RB.out
      have f1 : wv.frozen? ⟨gr, 1, none⟩ = false := frozen_of_row wv _ 1 _ _ RB.out
      go_simp
      obtain ⟨W5, hWn⟩ : ∃ W6, W6 = (wv.setCell ⟨gr, 0, none⟩ (.int .i64 dx1)).setCell ⟨gr, 1, none⟩ (.int .i64 dy1) := ⟨_, rfl⟩
      have hgr : wv.grownBy W5 (some gr) := by rw [hWn]; exact grown_next (grownSet _ ⟨gr, 0, none⟩ _) (grownSet _ ⟨gr, 1, none⟩ _)
      replace RB := Lib.hid (show SpotBox W5 gr dx1 dy1 by rw [hWn]; exact RB.out.set _ _)
      replace QB := Lib.hid (QB.out.grown hgr (by simp; omega))
      replace B := Lib.hid (B.out.grown hgr B.out.size (fun g9 h9 => by injection h9 with h9; omega))
      replace x0 := hgr.cell x0 (by simp; omega)
      replace x1 := hgr.cell x1 (by simp; omega)
      replace y0 := hgr.cell y0 (by simp; omega)
      replace y1 := hgr.cell y1 (by simp; omega)
      rw [← hWn]
      clear hWn hgr z0 z1 f0 f1
      refine hK.out _ _ ?_ (fun hHeld => ?_)
      · (try dsimp only)
        exact ⟨x0, x1, y0, y1⟩
      clear hK K
      (try simp only [Act.put, List.setIfInBounds_toArray, List.set_cons_zero, List.set_cons_succ])
      refine wpAnyH_ready (rs := [9]) (by kernel_rfl) (by simp) ?_
      refine AllReadyH.cons (o := ⟨_, _, _, _, _, _⟩) rfl (fun K hK => ?_) AllReadyH.nil
      have z0 := QB.out.c0; have z1 := QB.out.c1
      have f0 : W5.frozen? ⟨gq, 0, none⟩ = false := frozen_of_row W5 _ 0 _ _ QB.out
      have f1 : W5.frozen? ⟨gq, 1, none⟩ = false := frozen_of_row W5 _ 1 _ _ QB.out
      go_simp
      obtain ⟨W6, hWn⟩ : ∃ W6, W6 = (W5.setCell ⟨gq, 0, none⟩ (.int .i64 dx2)).setCell ⟨gq, 1, none⟩ (.int .i64 dy2) := ⟨_, rfl⟩
      have hgr : W5.grownBy W6 (some gq) := by rw [hWn]; exact grown_next (grownSet _ ⟨gq, 0, none⟩ _) (grownSet _ ⟨gq, 1, none⟩ _)
      replace QB := Lib.hid (show SpotBox W6 gq dx2 dy2 by rw [hWn]; exact QB.out.set _ _)
      replace RB := Lib.hid (RB.out.grown hgr (by simp; omega))
      replace B := Lib.hid (B.out.grown hgr B.out.size (fun g9 h9 => by injection h9 with h9; omega))
      replace x0 := hgr.cell x0 (by simp; omega)
      replace x1 := hgr.cell x1 (by simp; omega)
      replace y0 := hgr.cell y0 (by simp; omega)
      replace y1 := hgr.cell y1 (by simp; omega)
      rw [← hWn]
      clear hWn hgr z0 z1 f0 f1
      refine hK.out _ _ ?_ (fun hHeld => ?_)
      · (try dsimp only)
        exact ⟨x0, x1, y0, y1⟩
      clear hK K
      (try simp only [Act.put, List.setIfInBounds_toArray, List.set_cons_zero, List.set_cons_succ])
      refine wpAnyH_take (i := 10) (oi := ⟨_, _, _, _, _, _⟩) (v := ?_) rfl (by kernel_rfl) (by kernel_rfl) (by kernel_rfl) (fun _ _ _ h => h) (Or.inl ⟨by rfl, ?_⟩) (by assumption) ?_
      rotate_left
      · intro w hSw
        (try dsimp only at hSw)
        go_simp
        (try with_reducible rfl)
      (try simp only [Act.put, List.setIfInBounds_toArray, List.set_cons_zero, List.set_cons_succ])
      refine wpAnyH_done (by kernel_rfl) ?_ _
      clear hHeld x0 x1 y0 y1
      have r0 := RB.out.c0; have r1 := RB.out.c1; have q0 := QB.out.c0; have q1 := QB.out.c1
      go_wp2
      exact bodyPost_ret (v := .tuple #[lpr dx1 dy1, lpr dx2 dy2, .bool true]) (by simp [results, Try.results79, go_sem, r0, r1, q0, q1]) rfl ⟨by rw [stepO, stepO, if_pos OK.out, if_pos OK.out, OK.out, HP1.out, HP2.out], (by repeat (first | exact B.out | refine below_drewN ?_ _ | refine Below.drew ?_))⟩
  · have hmn : min f s = s := by omega
    have hmx : max f s = f := by omega
    by_cases c0 : s < 0
    · have OK := Lib.hid (show okT W H a b f s t = false by rw [Bool.eq_false_iff]; intro h; have h2 := okT_iff.1 h; have := HLA.out; omega)
      have r0 := RB.out.c0; have r1 := RB.out.c1; have q0 := QB.out.c0; have q1 := QB.out.c1
      have z0 := frozen_of_row wv gr 0 _ _ RB.out; have z1 := frozen_of_row wv gr 1 _ _ RB.out; have z2 := frozen_of_row wv gq 0 _ _ QB.out; have z3 := frozen_of_row wv gq 1 _ _ QB.out
      clear a0 a1 a2 a3 l0 l1 al ll
      go_wp2
      obtain ⟨hs1, hs2⟩ := two_set RB.out QB.out (by omega) 0 0 0 0
      obtain ⟨W6, hW6⟩ : ∃ W6, W6 = (((wv.setCell ⟨gr, 0, none⟩ (.int .i64 0)).setCell ⟨gr, 1, none⟩ (.int .i64 0)).setCell ⟨gq, 0, none⟩ (.int .i64 0)).setCell ⟨gq, 1, none⟩ (.int .i64 0) := ⟨_, rfl⟩
      have B6 := Lib.hid (show Below w.heap.size w W6 by rw [hW6]; exact Below.setCell (Below.setCell (Below.setCell (Below.setCell B.out (p := ⟨gr, 0, none⟩) (by simp; omega) _) (p := ⟨gr, 1, none⟩) (by simp; omega) _) (p := ⟨gq, 0, none⟩) (by simp; omega) _) (p := ⟨gq, 1, none⟩) (by simp; omega) _)
      rw [← hW6] at hs1 hs2 ⊢
      have c0 := hs1.c0; have c1 := hs1.c1; have c2 := hs2.c0; have c3 := hs2.c1
      clear hW6
      exact bodyPost_ret (v := .tuple #[lpr 0 0, lpr 0 0, .bool false]) (by simp [results, Try.results79, go_sem, c0, c1, c2, c3]) rfl ⟨by rw [stepO, stepO, OK.out]; rfl, B6.out⟩
    by_cases c1 : (n1 : Int) ≤ f
    · have OK := Lib.hid (show okT W H a b f s t = false by rw [Bool.eq_false_iff]; intro h; have h2 := okT_iff.1 h; have := HLA.out; omega)
      have r0 := RB.out.c0; have r1 := RB.out.c1; have q0 := QB.out.c0; have q1 := QB.out.c1
      have z0 := frozen_of_row wv gr 0 _ _ RB.out; have z1 := frozen_of_row wv gr 1 _ _ RB.out; have z2 := frozen_of_row wv gq 0 _ _ QB.out; have z3 := frozen_of_row wv gq 1 _ _ QB.out
      clear a0 a1 a2 a3 l0 l1 al ll
      go_wp2
      obtain ⟨hs1, hs2⟩ := two_set RB.out QB.out (by omega) 0 0 0 0
      obtain ⟨W6, hW6⟩ : ∃ W6, W6 = (((wv.setCell ⟨gr, 0, none⟩ (.int .i64 0)).setCell ⟨gr, 1, none⟩ (.int .i64 0)).setCell ⟨gq, 0, none⟩ (.int .i64 0)).setCell ⟨gq, 1, none⟩ (.int .i64 0) := ⟨_, rfl⟩
      have B6 := Lib.hid (show Below w.heap.size w W6 by rw [hW6]; exact Below.setCell (Below.setCell (Below.setCell (Below.setCell B.out (p := ⟨gr, 0, none⟩) (by simp; omega) _) (p := ⟨gr, 1, none⟩) (by simp; omega) _) (p := ⟨gq, 0, none⟩) (by simp; omega) _) (p := ⟨gq, 1, none⟩) (by simp; omega) _)
      rw [← hW6] at hs1 hs2 ⊢
      have c0 := hs1.c0; have c1 := hs1.c1; have c2 := hs2.c0; have c3 := hs2.c1
      clear hW6
      exact bodyPost_ret (v := .tuple #[lpr 0 0, lpr 0 0, .bool false]) (by simp [results, Try.results79, go_sem, c0, c1, c2, c3]) rfl ⟨by rw [stepO, stepO, OK.out]; rfl, B6.out⟩
    · have OK := Lib.hid (show okT W H a b f s t = true from okT_iff.2 ⟨HT.out.1, HT.out.2, by have := HLA.out; omega, by have := HLA.out; omega, by omega⟩)
      have HF := Lib.hid (stepN_at (a := a) (b := b) (f := f) (by have := HLA.out; omega)); have HS := Lib.hid (stepN_at (a := a) (b := b) (f := s) (by have := HLA.out; omega))
      obtain ⟨⟨dx1, dy1⟩, hp1⟩ : ∃ p, stepN a b f = p := ⟨_, rfl⟩
      obtain ⟨⟨dx2, dy2⟩, hp2⟩ : ∃ p, stepN a b s = p := ⟨_, rfl⟩
      rw [hp1] at HF
      rw [hp2] at HS
      have HP1 := Lib.hid hp1; have HP2 := Lib.hid hp2
      clear hp1 hp2
      obtain ⟨fn, rfl⟩ : ∃ fn : Nat, f = (fn : Int) := ⟨f.toNat, by omega⟩
      obtain ⟨sn, rfl⟩ : ∃ sn : Nat, s = (sn : Int) := ⟨s.toNat, by omega⟩
      simp only [Int.toNat_natCast] at HF HS
      obtain ⟨g1, rfl, hlo1, hg1⟩ := ST.out.some_ (i := fn) (by omega)
      have hgne : gq < g1 := Nat.lt_of_lt_of_le HQL.out hlo1
      clear hlo1
      obtain ⟨x0, x1⟩ := pair_at ST.out HF.out
      obtain ⟨y0, y1⟩ := pair_at ST.out HS.out
      simp only at x0 x1 y0 y1
      have hfi : (fn : Int) < (n1 : Int) := by omega
      have hsi : (sn : Int) < (n1 : Int) := by omega
      have hf0 : (0 : Int) ≤ (fn : Int) := by omega
      have hs0 : (0 : Int) ≤ (sn : Int) := by omega
      clear a0 a1 a2 a3 l0 l1 al ll
      go_wp2_with fail
      refine wp_region_held_drew (S := fun w' => w'.cell? ⟨g1, fn * 2, none⟩ = some (.int .i64 dx1) ∧ w'.cell? ⟨g1, fn * 2 + 1, none⟩ = some (.int .i64 dy1) ∧ w'.cell? ⟨g1, sn * 2, none⟩ = some (.int .i64 dx2) ∧ w'.cell? ⟨g1, sn * 2 + 1, none⟩ = some (.int .i64 dy2)) (by kernel_rfl) ?_ (fun hHeld => ?_)
      · (try dsimp only)
        exact ⟨x0, x1, y0, y1⟩
      refine wpAnyH_take (i := 0) (oi := ⟨_, _, _, _, _, _⟩) (v := ?_) rfl (by kernel_rfl) (by kernel_rfl) (by kernel_rfl) (fun _ _ _ h => h) (Or.inl ⟨by rfl, ?_⟩) (by assumption) ?_
      rotate_left
      · intro w hSw
        (try dsimp only at hSw)
        go_simp
        (try with_reducible rfl)
      (try simp only [Act.put, List.setIfInBounds_toArray, List.set_cons_zero, List.set_cons_succ])
      refine wpAnyH_take (i := 1) (oi := ⟨_, _, _, _, _, _⟩) (v := ?_) rfl (by kernel_rfl) (by kernel_rfl) (by kernel_rfl) (fun _ _ _ h => h) (Or.inl ⟨by rfl, ?_⟩) (by assumption) ?_
      rotate_left
      · intro w hSw
        (try dsimp only at hSw)
        go_simp
        (try with_reducible rfl)
      (try simp only [Act.put, List.setIfInBounds_toArray, List.set_cons_zero, List.set_cons_succ])
      refine wpAnyH_take (i := 4) (oi := ⟨_, _, _, _, _, _⟩) (v := ?_) rfl (by kernel_rfl) (by kernel_rfl) (by kernel_rfl) (fun _ _ _ h => h) (Or.inl ⟨by rfl, ?_⟩) (by assumption) ?_
      rotate_left
      · intro w hSw
        (try dsimp only at hSw)
        go_simp
        (try with_reducible rfl)
      (try simp only [Act.put, List.setIfInBounds_toArray, List.set_cons_zero, List.set_cons_succ])
      refine wpAnyH_take (i := 5) (oi := ⟨_, _, _, _, _, _⟩) (v := ?_) rfl (by kernel_rfl) (by kernel_rfl) (by kernel_rfl) (fun _ _ _ h => h) (Or.inl ⟨by rfl, ?_⟩) (by assumption) ?_
      rotate_left
      · intro w hSw
        (try dsimp only at hSw)
        go_simp
        (try with_reducible rfl)
      (try simp only [Act.put, List.setIfInBounds_toArray, List.set_cons_zero, List.set_cons_succ])
      refine wpAnyH_take (i := 2) (oi := ⟨_, _, _, _, _, _⟩) (v := ?_) rfl (by kernel_rfl) (by kernel_rfl) (by kernel_rfl) (fun _ _ _ h => h) (Or.inl ⟨by rfl, ?_⟩) (by assumption) ?_
      rotate_left
      · intro w hSw
        (try dsimp only at hSw)
        go_simp
        (try with_reducible rfl)
      (try simp only [Act.put, List.setIfInBounds_toArray, List.set_cons_zero, List.set_cons_succ])
      refine wpAnyH_take (i := 6) (oi := ⟨_, _, _, _, _, _⟩) (v := ?_) rfl (by kernel_rfl) (by kernel_rfl) (by kernel_rfl) (fun _ _ _ h => h) (Or.inl ⟨by rfl, ?_⟩) (by assumption) ?_
      rotate_left
      · intro w hSw
        (try dsimp only at hSw)
        go_simp
        (try with_reducible rfl)
      (try simp only [Act.put, List.setIfInBounds_toArray, List.set_cons_zero, List.set_cons_succ])
      refine wpAnyH_take (i := 3) (oi := ⟨_, _, _, _, _, _⟩) (v := ?_) rfl (by kernel_rfl) (by kernel_rfl) (by kernel_rfl) (fun _ _ _ h => h) (Or.inl ⟨by rfl, ?_⟩) (by assumption) ?_
      rotate_left
      · intro w hSw
        (try dsimp only at hSw)
        go_simp
        (try with_reducible rfl)
      (try simp only [Act.put, List.setIfInBounds_toArray, List.set_cons_zero, List.set_cons_succ])
      refine wpAnyH_take (i := 7) (oi := ⟨_, _, _, _, _, _⟩) (v := ?_) rfl (by kernel_rfl) (by kernel_rfl) (by kernel_rfl) (fun _ _ _ h => h) (Or.inl ⟨by rfl, ?_⟩) (by assumption) ?_
      rotate_left
      · intro w hSw
        (try dsimp only at hSw)
        go_simp
        (try with_reducible rfl)
      (try simp only [Act.put, List.setIfInBounds_toArray, List.set_cons_zero, List.set_cons_succ])
      refine wpAnyH_ready (rs := [8]) (by kernel_rfl) (by simp) ?_
      refine AllReadyH.cons (o := ⟨_, _, _, _, _, _⟩) rfl (fun K hK => ?_) AllReadyH.nil
      have z0 := RB.out.c0; have z1 := RB.out.c1
      have f0 : wv.frozen? ⟨gr, 0, none⟩ = false := frozen_of_row wv _ 0 _ _ RB.out
      have f1 : wv.frozen? ⟨gr, 1, none⟩ = false := frozen_of_row wv _ 1 _ _ RB.out
      go_simp
      obtain ⟨W5, hWn⟩ : ∃ W6, W6 = (wv.setCell ⟨gr, 0, none⟩ (.int .i64 dx1)).setCell ⟨gr, 1, none⟩ (.int .i64 dy1) := ⟨_, rfl⟩
      have hgr : wv.grownBy W5 (some gr) := by rw [hWn]; exact grown_next (grownSet _ ⟨gr, 0, none⟩ _) (grownSet _ ⟨gr, 1, none⟩ _)
      replace RB := Lib.hid (show SpotBox W5 gr dx1 dy1 by rw [hWn]; exact RB.out.set _ _)
      replace QB := Lib.hid (QB.out.grown hgr (by simp; omega))
      replace B := Lib.hid (B.out.grown hgr B.out.size (fun g9 h9 => by injection h9 with h9; omega))
      replace x0 := hgr.cell x0 (by simp; omega)
      replace x1 := hgr.cell x1 (by simp; omega)
      replace y0 := hgr.cell y0 (by simp; omega)
      replace y1 := hgr.cell y1 (by simp; omega)
      rw [← hWn]
      clear hWn hgr z0 z1 f0 f1
      refine hK.out _ _ ?_ (fun hHeld => ?_)
      · (try dsimp only)
        exact ⟨x0, x1, y0, y1⟩
      clear hK K
      (try simp only [Act.put, List.setIfInBounds_toArray, List.set_cons_zero, List.set_cons_succ])
      refine wpAnyH_ready (rs := [9]) (by kernel_rfl) (by simp) ?_
      refine AllReadyH.cons (o := ⟨_, _, _, _, _, _⟩) rfl (fun K hK => ?_) AllReadyH.nil
      have z0 := QB.out.c0; have z1 := QB.out.c1
      have f0 : W5.frozen? ⟨gq, 0, none⟩ = false := frozen_of_row W5 _ 0 _ _ QB.out
      have f1 : W5.frozen? ⟨gq, 1, none⟩ = false := frozen_of_row W5 _ 1 _ _ QB.out
      go_simp
      obtain ⟨W6, hWn⟩ : ∃ W6, W6 = (W5.setCell ⟨gq, 0, none⟩ (.int .i64 dx2)).setCell ⟨gq, 1, none⟩ (.int .i64 dy2) := ⟨_, rfl⟩
      have hgr : W5.grownBy W6 (some gq) := by rw [hWn]; exact grown_next (grownSet _ ⟨gq, 0, none⟩ _) (grownSet _ ⟨gq, 1, none⟩ _)
      replace QB := Lib.hid (show SpotBox W6 gq dx2 dy2 by rw [hWn]; exact QB.out.set _ _)
      replace RB := Lib.hid (RB.out.grown hgr (by simp; omega))
      replace B := Lib.hid (B.out.grown hgr B.out.size (fun g9 h9 => by injection h9 with h9; omega))
      replace x0 := hgr.cell x0 (by simp; omega)
      replace x1 := hgr.cell x1 (by simp; omega)
      replace y0 := hgr.cell y0 (by simp; omega)
      replace y1 := hgr.cell y1 (by simp; omega)
      rw [← hWn]
      clear hWn hgr z0 z1 f0 f1
      refine hK.out _ _ ?_ (fun hHeld => ?_)
      · (try dsimp only)
        exact ⟨x0, x1, y0, y1⟩
      clear hK K
      (try simp only [Act.put, List.setIfInBounds_toArray, List.set_cons_zero, List.set_cons_succ])
      refine wpAnyH_take (i := 10) (oi := ⟨_, _, _, _, _, _⟩) (v := ?_) rfl (by kernel_rfl) (by kernel_rfl) (by kernel_rfl) (fun _ _ _ h => h) (Or.inl ⟨by rfl, ?_⟩) (by assumption) ?_
      rotate_left
      · intro w hSw
        (try dsimp only at hSw)
        go_simp
        (try with_reducible rfl)
      (try simp only [Act.put, List.setIfInBounds_toArray, List.set_cons_zero, List.set_cons_succ])
      refine wpAnyH_done (by kernel_rfl) ?_ _
      clear hHeld x0 x1 y0 y1
      have r0 := RB.out.c0; have r1 := RB.out.c1; have q0 := QB.out.c0; have q1 := QB.out.c1
      go_wp2
      exact bodyPost_ret (v := .tuple #[lpr dx1 dy1, lpr dx2 dy2, .bool true]) (by simp [results, Try.results79, go_sem, r0, r1, q0, q1]) rfl ⟨by rw [stepO, stepO, if_pos OK.out, if_pos OK.out, OK.out, HP1.out, HP2.out], (by repeat (first | exact B.out | refine below_drewN ?_ _ | refine Below.drew ?_))⟩

end Go.Proofs.Ytaliknhfcdmohaa
