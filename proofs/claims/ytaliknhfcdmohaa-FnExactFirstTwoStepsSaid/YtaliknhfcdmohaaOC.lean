/-
  Contracts: two steps by turns, in the model: what is asked, the cells.
-/
import Derived.Test.YtaliknhfcdmohaaO9
import Derived.Test.YtaliknhfcdmohaaOB
import Derived.Test.YtaliknhfcdmohaaP0
namespace Go.Proofs.Ytaliknhfcdmohaa
open Go.RowKit

theorem own_zero (w : World) (lo : Nat) (h : lo ≤ w.heap.size) : OwnI 3 (w.alloc (.cells #[.int .i64 0] 3)) lo (some ⟨w.heap.size, 0, none⟩) 1 1 [0] :=
  World.ownsRow_lit (base := lo) (e := 3) w (#[.int .i64 0] : Array Value) 1 (size := 1) h (by decide) rfl
theorem own_made {w1 : World} {lo g N : Nat} (h : w1.ownsRow lo 4 1 (.slice (some ⟨g, 0, none⟩) N N) N (madeCells (Value.cells (.bool false)) (N * 1)).toList) : OwnB 4 w1 lo (some ⟨g, 0, none⟩) N N (seenL N []) := by
  unfold OwnB
  rw [Nat.mul_one] at h
  have e : (madeCells (Value.cells (.bool false)) N).toList = List.replicate N (.bool false) := toList_madeCells_one (.bool false) N
  rw [e] at h
  rw [seenL_nil, List.map_replicate]
  exact h
theorem OwnB.lt {E : TypeId} {w : World} {lo g n c : Nat} {xs : List Bool} (h : OwnB E w lo (some ⟨g, 0, none⟩) n c xs) : g < w.heap.size := (World.ownsRow.lt h g (by simp [Value.ownBlock])).2

set_option maxRecDepth 100000 in
set_option maxHeartbeats 2000000 in
theorem arAsked_any (W H : Int) (ac up : Bool) (a b f s t : Int) (w : World) :
    Calls Try.prog 77 #[ard W H ac up, lpr a b, .int .i64 f, .int .i64 s, .int .i64 t] w fun e w' => e = .returned (.bool (okT W H a b f s t)) ∧ Below w.heap.size w w' := by
  obtain ⟨W2, hW2⟩ : ∃ W2, W2 = (w.alloc (.cells #[.int .i64 W, .int .i64 H, .bool ac, .bool up] 25)).alloc (.cells #[.int .i64 a, .int .i64 b] 36) := ⟨_, rfl⟩
  have hsz : W2.heap.size = w.heap.size + 2 := by rw [hW2]; simp
  have a0 : W2.cell? ⟨w.heap.size, 0, none⟩ = some (.int .i64 W) := by rw [hW2]; go_simp
  have a1 : W2.cell? ⟨w.heap.size, 1, none⟩ = some (.int .i64 H) := by rw [hW2]; go_simp
  have a2 : W2.cell? ⟨w.heap.size, 2, none⟩ = some (.bool ac) := by rw [hW2]; go_simp
  have a3 : W2.cell? ⟨w.heap.size, 3, none⟩ = some (.bool up) := by rw [hW2]; go_simp
  have al : w.heap.size < W2.heap.size := by omega
  have l0 : W2.cell? ⟨w.heap.size + 1, 0, none⟩ = some (.int .i64 a) := by rw [hW2]; go_simp
  have l1 : W2.cell? ⟨w.heap.size + 1, 1, none⟩ = some (.int .i64 b) := by rw [hW2]; go_simp
  have ll : w.heap.size + 1 < W2.heap.size := by omega
  have B := Lib.hid (show Below w.heap.size w W2 by rw [hW2]; repeat (first | exact Below.refl _ _ | refine below_new ?_ _))
  cases ht : twoA W H a b
  · have OK := Lib.hid (show okT W H a b f s t = false by rw [okT, show (leaperB a b && goodA W H) = false from ht]; rfl)
    go_enter Try.func77, Try.ntmps77
    go_wp2_with fail
    rw [← hW2]
    clear hW2
    refine (arTwo_any _ _ _ _ _ _ _).mono ?_
    rw [ht]
    rintro e wv ⟨rfl, hb⟩
    replace a0 := cell_keep a0 al hb
    replace a1 := cell_keep a1 al hb
    replace a2 := cell_keep a2 al hb
    replace a3 := cell_keep a3 al hb
    replace al := lt_keep al hb
    replace l0 := cell_keep l0 ll hb
    replace l1 := cell_keep l1 ll hb
    replace ll := lt_keep ll hb
    replace B := Lib.hid (below_next B.out hb)
    clear hb
    clear a0 a1 a2 a3 l0 l1 al ll
    go_wp2
    go_ret
    exact ⟨ret_bool OK.out.symm, B.out⟩
  have HT := Lib.hid (twoA_iff.1 ht)
  have HOK := Lib.hid (show okT W H a b f s t = (inB f 0 (lenA a b - 1) && inB s 0 (lenA a b - 1) && inB t 2 150) by rw [okT, show (leaperB a b && goodA W H) = true from ht, Bool.true_and])
  cases h1 : inB f 0 (lenA a b - 1)
  · have OK := Lib.hid (show okT W H a b f s t = false by rw [HOK.out, h1]; rfl)
    go_enter Try.func77, Try.ntmps77
    go_wp2_with fail
    rw [← hW2]
    clear hW2
    refine (arTwo_any _ _ _ _ _ _ _).mono ?_
    rw [ht]
    rintro e wv ⟨rfl, hb⟩
    replace a0 := cell_keep a0 al hb
    replace a1 := cell_keep a1 al hb
    replace a2 := cell_keep a2 al hb
    replace a3 := cell_keep a3 al hb
    replace al := lt_keep al hb
    replace l0 := cell_keep l0 ll hb
    replace l1 := cell_keep l1 ll hb
    replace ll := lt_keep ll hb
    replace B := Lib.hid (below_next B.out hb)
    clear hb
    go_wp2_with fail
    refine (boSteps_any a b _ HT.out.1).mono ?_
    rintro e ws ⟨A1, n1, c1, top, rfl, hpa, hb⟩
    have hln := hpa.len
    rw [List.length_map] at hln
    have hLN : lenA a b = (n1 : Int) := by unfold lenA; omega
    have hn8 : n1 ≤ 8 := by have := stepsL_len HT.out.1; omega
    replace a0 := cell_keep a0 al hb
    replace a1 := cell_keep a1 al hb
    replace a2 := cell_keep a2 al hb
    replace a3 := cell_keep a3 al hb
    replace al := lt_keep al hb
    replace l0 := cell_keep l0 ll hb
    replace l1 := cell_keep l1 ll hb
    replace ll := lt_keep ll hb
    replace B := Lib.hid (below_next B.out hb)
    clear hb
    clear hpa
    have hwn : IntKind.i64.wrap ((n1 : Int) - 1) = (n1 : Int) - 1 := IntWalk.i64_in _ (by omega)
    go_wp2_with fail
    refine (l1In_any _ _ _ _).mono ?_
    rw [← hLN, h1]
    rintro e w9 ⟨rfl, rfl⟩
    clear hln hLN hwn hn8
    clear a0 a1 a2 a3 l0 l1 al ll
    go_wp2
    go_ret
    exact ⟨ret_bool OK.out.symm, B.out⟩
  cases h2 : inB s 0 (lenA a b - 1)
  · have OK := Lib.hid (show okT W H a b f s t = false by rw [HOK.out, h1, h2]; rfl)
    go_enter Try.func77, Try.ntmps77
    go_wp2_with fail
    rw [← hW2]
    clear hW2
    refine (arTwo_any _ _ _ _ _ _ _).mono ?_
    rw [ht]
    rintro e wv ⟨rfl, hb⟩
    replace a0 := cell_keep a0 al hb
    replace a1 := cell_keep a1 al hb
    replace a2 := cell_keep a2 al hb
    replace a3 := cell_keep a3 al hb
    replace al := lt_keep al hb
    replace l0 := cell_keep l0 ll hb
    replace l1 := cell_keep l1 ll hb
    replace ll := lt_keep ll hb
    replace B := Lib.hid (below_next B.out hb)
    clear hb
    go_wp2_with fail
    refine (boSteps_any a b _ HT.out.1).mono ?_
    rintro e ws ⟨A1, n1, c1, top, rfl, hpa, hb⟩
    have hln := hpa.len
    rw [List.length_map] at hln
    have hLN : lenA a b = (n1 : Int) := by unfold lenA; omega
    have hn8 : n1 ≤ 8 := by have := stepsL_len HT.out.1; omega
    replace a0 := cell_keep a0 al hb
    replace a1 := cell_keep a1 al hb
    replace a2 := cell_keep a2 al hb
    replace a3 := cell_keep a3 al hb
    replace al := lt_keep al hb
    replace l0 := cell_keep l0 ll hb
    replace l1 := cell_keep l1 ll hb
    replace ll := lt_keep ll hb
    replace B := Lib.hid (below_next B.out hb)
    clear hb
    clear hpa
    have hwn : IntKind.i64.wrap ((n1 : Int) - 1) = (n1 : Int) - 1 := IntWalk.i64_in _ (by omega)
    go_wp2_with fail
    refine (l1In_any _ _ _ _).mono ?_
    rw [← hLN, h1]
    rintro e w9 ⟨rfl, rfl⟩
    clear hln hLN hwn hn8
    go_wp2_with fail
    refine (boSteps_any a b _ HT.out.1).mono ?_
    rintro e ws ⟨A1, n1, c1, top, rfl, hpa, hb⟩
    have hln := hpa.len
    rw [List.length_map] at hln
    have hLN : lenA a b = (n1 : Int) := by unfold lenA; omega
    have hn8 : n1 ≤ 8 := by have := stepsL_len HT.out.1; omega
    replace a0 := cell_keep a0 al hb
    replace a1 := cell_keep a1 al hb
    replace a2 := cell_keep a2 al hb
    replace a3 := cell_keep a3 al hb
    replace al := lt_keep al hb
    replace l0 := cell_keep l0 ll hb
    replace l1 := cell_keep l1 ll hb
    replace ll := lt_keep ll hb
    replace B := Lib.hid (below_next B.out hb)
    clear hb
    clear hpa
    have hwn : IntKind.i64.wrap ((n1 : Int) - 1) = (n1 : Int) - 1 := IntWalk.i64_in _ (by omega)
    go_wp2_with fail
    refine (l1In_any _ _ _ _).mono ?_
    rw [← hLN, h2]
    rintro e w9 ⟨rfl, rfl⟩
    clear hln hLN hwn hn8
    clear a0 a1 a2 a3 l0 l1 al ll
    go_wp2
    go_ret
    exact ⟨ret_bool OK.out.symm, B.out⟩
  · have OK := Lib.hid (show okT W H a b f s t = inB t 2 150 by rw [HOK.out, h1, h2]; simp)
    go_enter Try.func77, Try.ntmps77
    go_wp2_with fail
    rw [← hW2]
    clear hW2
    refine (arTwo_any _ _ _ _ _ _ _).mono ?_
    rw [ht]
    rintro e wv ⟨rfl, hb⟩
    replace a0 := cell_keep a0 al hb
    replace a1 := cell_keep a1 al hb
    replace a2 := cell_keep a2 al hb
    replace a3 := cell_keep a3 al hb
    replace al := lt_keep al hb
    replace l0 := cell_keep l0 ll hb
    replace l1 := cell_keep l1 ll hb
    replace ll := lt_keep ll hb
    replace B := Lib.hid (below_next B.out hb)
    clear hb
    go_wp2_with fail
    refine (boSteps_any a b _ HT.out.1).mono ?_
    rintro e ws ⟨A1, n1, c1, top, rfl, hpa, hb⟩
    have hln := hpa.len
    rw [List.length_map] at hln
    have hLN : lenA a b = (n1 : Int) := by unfold lenA; omega
    have hn8 : n1 ≤ 8 := by have := stepsL_len HT.out.1; omega
    replace a0 := cell_keep a0 al hb
    replace a1 := cell_keep a1 al hb
    replace a2 := cell_keep a2 al hb
    replace a3 := cell_keep a3 al hb
    replace al := lt_keep al hb
    replace l0 := cell_keep l0 ll hb
    replace l1 := cell_keep l1 ll hb
    replace ll := lt_keep ll hb
    replace B := Lib.hid (below_next B.out hb)
    clear hb
    clear hpa
    have hwn : IntKind.i64.wrap ((n1 : Int) - 1) = (n1 : Int) - 1 := IntWalk.i64_in _ (by omega)
    go_wp2_with fail
    refine (l1In_any _ _ _ _).mono ?_
    rw [← hLN, h1]
    rintro e w9 ⟨rfl, rfl⟩
    clear hln hLN hwn hn8
    go_wp2_with fail
    refine (boSteps_any a b _ HT.out.1).mono ?_
    rintro e ws ⟨A1, n1, c1, top, rfl, hpa, hb⟩
    have hln := hpa.len
    rw [List.length_map] at hln
    have hLN : lenA a b = (n1 : Int) := by unfold lenA; omega
    have hn8 : n1 ≤ 8 := by have := stepsL_len HT.out.1; omega
    replace a0 := cell_keep a0 al hb
    replace a1 := cell_keep a1 al hb
    replace a2 := cell_keep a2 al hb
    replace a3 := cell_keep a3 al hb
    replace al := lt_keep al hb
    replace l0 := cell_keep l0 ll hb
    replace l1 := cell_keep l1 ll hb
    replace ll := lt_keep ll hb
    replace B := Lib.hid (below_next B.out hb)
    clear hb
    clear hpa
    have hwn : IntKind.i64.wrap ((n1 : Int) - 1) = (n1 : Int) - 1 := IntWalk.i64_in _ (by omega)
    go_wp2_with fail
    refine (l1In_any _ _ _ _).mono ?_
    rw [← hLN, h2]
    rintro e w9 ⟨rfl, rfl⟩
    clear hln hLN hwn hn8
    go_wp2_with fail
    refine (l1In_any _ _ _ _).mono ?_
    rintro e w9 ⟨rfl, rfl⟩
    clear a0 a1 a2 a3 l0 l1 al ll
    go_wp2
    go_ret
    exact ⟨ret_bool OK.out.symm, B.out⟩

set_option maxRecDepth 100000 in
set_option maxHeartbeats 4000000 in
theorem arTurns_any (W H : Int) (ac up : Bool) (a b : Int) (f s : Nat) (t : Int) (w : World) (hg : goodA W H = true) (hl : leaperB a b = true) (hf : f < (stepsL a b).length) (hs : s < (stepsL a b).length) (ht : 2 ≤ t ∧ t ≤ 150) :
    Calls Try.prog 78 #[ard W H ac up, lpr a b, .int .i64 (f : Int), .int .i64 (s : Int), .int .i64 t] w fun e w' => ∃ A' n' c', e = .returned (.slice A' n' c') ∧ OwnI 3 w' w.heap.size A' n' c' (turnsL W H ac up ((stepsL a b).getD f (0, 0)) ((stepsL a b).getD s (0, 0)) t) ∧ Below w.heap.size w w' := by
  have HG := Lib.hid hg; have HL := Lib.hid hl
  obtain ⟨i0, hi, hz0, hz1, hz2⟩ := info_parts infoI
  have HI := Lib.hid hi; have HZ0 := Lib.hid hz0; have HZ1 := Lib.hid hz1; have HZ2 := Lib.hid hz2
  obtain ⟨ib, hib, hy0, hy1, hy2⟩ := info_parts infoBl
  have HIB := Lib.hid hib; have HY0 := Lib.hid hy0; have HY1 := Lib.hid hy1; have HY2 := Lib.hid hy2
  clear hi hz0 hz1 hz2 hib hy0 hy1 hy2
  have hA := areaA hg
  obtain ⟨A1, A2⟩ := hA
  obtain ⟨⟨hW1, hW2b⟩, hH1, hH2⟩ := goodA_iff.1 hg
  obtain ⟨N, hN⟩ : ∃ N : Nat, W * H = (N : Int) := ⟨(W * H).toNat, by omega⟩
  have hNn : (W * H).toNat = N := by omega
  have N1 : 1 ≤ N := by omega
  have N2 : N ≤ 144 := by omega
  obtain ⟨t1, t2⟩ := ht
  obtain ⟨⟨dx1, dy1⟩, hx1⟩ : ∃ p, (stepsL a b)[f]? = some p := ⟨_, List.getElem?_eq_getElem hf⟩
  obtain ⟨⟨dx2, dy2⟩, hx2⟩ : ∃ p, (stepsL a b)[s]? = some p := ⟨_, List.getElem?_eq_getElem hs⟩
  have HB1 := Lib.hid (stepsL_bd hl (List.mem_of_getElem? hx1)); have HB2 := Lib.hid (stepsL_bd hl (List.mem_of_getElem? hx2))
  obtain ⟨TL, hTL⟩ : ∃ TL, turnsL W H ac up ((stepsL a b).getD f (0, 0)) ((stepsL a b).getD s (0, 0)) t = TL := ⟨_, rfl⟩
  rw [hTL]
  have HTL := Lib.hid (show TL = turnsL W H ac up (dx1, dy1) (dx2, dy2) t by rw [← hTL, List.getD_eq_getElem?_getD, List.getD_eq_getElem?_getD, hx1, hx2]; rfl)
  clear hTL
  have HX1 := Lib.hid hx1; have HX2 := Lib.hid hx2
  clear hg hl hx1 hx2
  obtain ⟨W2, hW2⟩ : ∃ W2, W2 = (w.alloc (.cells #[.int .i64 W, .int .i64 H, .bool ac, .bool up] 25)).alloc (.cells #[.int .i64 a, .int .i64 b] 36) := ⟨_, rfl⟩
  have hsz : W2.heap.size = w.heap.size + 2 := by rw [hW2]; simp
  have a0 : W2.cell? ⟨w.heap.size, 0, none⟩ = some (.int .i64 W) := by rw [hW2]; go_simp
  have a1 : W2.cell? ⟨w.heap.size, 1, none⟩ = some (.int .i64 H) := by rw [hW2]; go_simp
  have a2 : W2.cell? ⟨w.heap.size, 2, none⟩ = some (.bool ac) := by rw [hW2]; go_simp
  have a3 : W2.cell? ⟨w.heap.size, 3, none⟩ = some (.bool up) := by rw [hW2]; go_simp
  have al : w.heap.size < W2.heap.size := by omega
  have l0 : W2.cell? ⟨w.heap.size + 1, 0, none⟩ = some (.int .i64 a) := by rw [hW2]; go_simp
  have l1 : W2.cell? ⟨w.heap.size + 1, 1, none⟩ = some (.int .i64 b) := by rw [hW2]; go_simp
  have ll : w.heap.size + 1 < W2.heap.size := by omega
  have B := Lib.hid (show Below w.heap.size w W2 by rw [hW2]; repeat (first | exact Below.refl _ _ | refine below_new ?_ _))
  go_enter Try.func78, Try.ntmps78
  go_wp2_with fail
  rw [← hW2]
  clear hW2
  refine (boSteps_any a b _ HL.out).mono ?_
  rintro e ws ⟨AS, n1, c1, top, rfl, hpa, hb⟩
  replace a0 := cell_keep a0 al hb
  replace a1 := cell_keep a1 al hb
  replace a2 := cell_keep a2 al hb
  replace a3 := cell_keep a3 al hb
  replace al := lt_keep al hb
  replace l0 := cell_keep l0 ll hb
  replace l1 := cell_keep l1 ll hb
  replace ll := lt_keep ll hb
  replace B := Lib.hid (below_next B.out hb)
  have HSS := Lib.hid (OwnSS.of hpa)
  have SLN := Lib.hid (show (stepsL a b).length = n1 by have := hpa.len; rw [List.length_map] at this; exact this)
  have n8 : n1 ≤ 8 := by have := SLN.out; have := stepsL_len HL.out; omega
  have f1 : f < n1 := by have := SLN.out; omega
  have s1 : s < n1 := by have := SLN.out; omega
  clear hpa hb l0 l1 ll hsz hf hs
  go_wp2_with (at_make; refine wpList_make_full _ rfl _ _ 78 rfl ws.heap.size 4 ib (.bool false) 1 Try.underlying78 HIB.out HY0.out HY1.out .i64 .i64 _ _ N rfl rfl (by first | rfl | simp [hN]) (by first | rfl | simp [hN]) (by rw [HY2.out]; omega) (by unfold maxLen; omega) (Nat.le_refl _) ?_; intro w1 hown1 hg1; have hb1 : Below ws.heap.size ws w1 := below_of_grown hg1 (Nat.le_refl _) (by simp); replace a0 := cell_keep a0 al hb1; replace a1 := cell_keep a1 al hb1; replace a2 := cell_keep a2 al hb1; replace a3 := cell_keep a3 al hb1; have al1 := lt_keep al hb1; have SB := Lib.hid (own_made hown1); have y0 := SB.out.cell (k := 0) (x := false) (by rw [seenL_at (show 0 < N by omega)]; rfl); have yf := SB.out.frozen 0; have hi0 : (0 : Int) < (N : Int) := (by omega); clear hown1 hg1)
  obtain ⟨gb, hgb⟩ : ∃ gb, gb = ws.heap.size := ⟨_, rfl⟩
  rw [← hgb] at SB hb1 ⊢
  have hwg : w.heap.size < gb := by omega
  have hgl : gb < w1.heap.size := SB.out.lt
  obtain ⟨st, sg⟩ := SB.out.stored 0 true
  rw [show (seenL N []).set 0 true = seenL N [0] from seenL_set (i := 0)] at st
  obtain ⟨W4, hW4⟩ : ∃ W4, W4 = (w1.setCell ⟨gb, 0, none⟩ (.bool true)).alloc (.cells #[.int .i64 0] 3) := ⟨_, rfl⟩
  have hs4 : (w1.setCell ⟨gb, 0, none⟩ (.bool true)).heap.size = w1.heap.size := by simp
  have O4 := Lib.hid (show OwnI 3 W4 (gb + 1) (some ⟨w1.heap.size, 0, none⟩) 1 1 [0] by rw [hW4]; have h := own_zero (w1.setCell ⟨gb, 0, none⟩ (.bool true)) (gb + 1) (by rw [hs4]; omega); rw [hs4] at h; exact h)
  have hb4 : Below w1.heap.size (w1.setCell ⟨gb, 0, none⟩ (.bool true)) W4 := by rw [hW4]; exact (Below.refl _ _).alloc (by rw [hs4]; exact Nat.le_refl _) _
  have SB4 := Lib.hid (st.keep (by rw [hs4]; exact hb4))
  have hb5 : Below gb w1 W4 := (below_of_grown sg (by omega) (fun g h => by injection h with h; omega)).trans (hb4.mono (by omega))
  have b0' := a0; have b1' := a1; have b2' := a2; have b3' := a3
  have HB4 := Lib.hid (hb1.trans hb5)
  replace a0 := (hb5.cell (p := ⟨w.heap.size, 0, none⟩) hwg).trans a0
  replace a1 := (hb5.cell (p := ⟨w.heap.size, 1, none⟩) hwg).trans a1
  replace a2 := (hb5.cell (p := ⟨w.heap.size, 2, none⟩) hwg).trans a2
  replace a3 := (hb5.cell (p := ⟨w.heap.size, 3, none⟩) hwg).trans a3
  have hl4 : w1.heap.size + 1 = W4.heap.size := by rw [hW4]; simp
  obtain ⟨go0, hgo0⟩ : ∃ go0, go0 = w1.heap.size := ⟨_, rfl⟩
  replace al := Nat.lt_of_lt_of_le al HB4.out.size
  have HSW := Lib.hid (HSS.out.keep (by rw [← hgb]; exact HB4.out))
  rw [← hW4, ← hgo0]
  rw [← hgo0] at O4
  have hP0 : ∀ x ∈ ([] : List Int), 0 ≤ x ∧ x < (N : Int) := fun x hx => by simp at hx
  obtain ⟨fu, hfu1, hfu2, hfu3, hfu4, hfu5⟩ := goT_go (W := W) (H := H) (t := t) (ac := ac) (up := up) (s1 := (dx1, dy1)) (s2 := (dx2, dy2)) (f := N) (N := N) (P := []) (n := 0) List.nodup_nil hP0 (by simp) (by omega) (by omega) (by simp)
  have HST := Lib.hid (show turnsL W H ac up (dx1, dy1) (dx2, dy2) t = goT W H ac up (dx1, dy1) (dx2, dy2) t fu [0] (nextT W H ac up (dx1, dy1) (dx2, dy2) t [0] 0) by rw [turnsL, hNn]; exact hfu3)
  have HF0 := Lib.hid (show fu + ([0] : List Int).length = N from hfu2); have HD0 := Lib.hid (show ([0] : List Int).Nodup from hfu4); have HI0 := Lib.hid (show ∀ x ∈ ([0] : List Int), 0 ≤ x ∧ x < (N : Int) from hfu5)
  have hg4 : gb + 1 ≤ W4.heap.size := by omega
  have HGB := Lib.hid hgb
  have HWS := Lib.hid (show w.heap.size ≤ gb by omega)
  clear hgb
  clear hW4 st sg hb4 hb5 hb1 y0 yf hi0 SB HSS hfu1 hfu2 hfu3 hfu4 hfu5 hP0 hs4 al1 b0' b1' b2' b3' hl4 hgl
  go_loopw [13, 14] (fun v i wr => ∃ (k n' c' fu : Nat) (A' : Option Addr) (P : List Int) (n : Int), i = .int .i64 ((k : Int) + 1) ∧ v = .slice A' n' c' ∧ n' = k + 1 ∧ OwnI 3 wr (gb + 1) A' n' c' P ∧ P[k]? = some n ∧ P.Nodup ∧ (∀ x ∈ P, 0 ≤ x ∧ x < (N : Int)) ∧ fu + P.length = N ∧ turnsL W H ac up (dx1, dy1) (dx2, dy2) t = goT W H ac up (dx1, dy1) (dx2, dy2) t fu P (nextT W H ac up (dx1, dy1) (dx2, dy2) t P n) ∧ OwnB 4 wr gb (some ⟨gb, 0, none⟩) N N (seenL N P) ∧ Below gb W4 wr) (fun _ i _ => N - (intOf i).toNat)
  case atStart => exact ⟨0, 1, 1, fu, _, [0], 0, rfl, rfl, rfl, O4.out, rfl, HD0.out, HI0.out, HF0.out, HST.out, SB4.out, Below.refl _ _⟩
  case round =>
    clear O4 SB4 HST HF0 HD0 HI0 hgo0 fu
    obtain ⟨k, n', c', fu, A', P, n, rfl, rfl, hnk, hown, hq, hnd, hin, hfu, hgo, hsee, hbw⟩ := hrel
    have hkN : k + 1 ≤ N := by have := hown.len; omega
    have hPk := Lib.hid (show P.length = k + 1 by have := hown.len; omega)
    obtain ⟨go1, rfl, hgo1, hgo2⟩ := hown.some_ (k := k) (by omega)
    have z0 := hown.cell hq
    have hcap := hown.cap
    have hqr := hin n (List.mem_of_getElem? hq)
    obtain ⟨g1, V1, m1, k1, p1, hA1, hg1, hcl1, hp1, hr1, -, -⟩ := (HSW.out.blocks (fun i _ _ h => hbw.block i (by have := HGB.out; omega))).at_ f1
    obtain ⟨g2, V2, m2, k2, p2, hA2, hg2, hcl2, hp2, hr2, -, -⟩ := (HSW.out.blocks (fun i _ _ h => hbw.block i (by have := HGB.out; omega))).at_ s1
    subst hA1
    injection hA2 with hA2
    injection hA2 with hA2 _ _
    subst hA2
    have e1 : p1 = [dx1, dy1] := by rw [List.getElem?_map, HX1.out] at hp1; simp [pairL] at hp1; exact hp1.symm
    have e2 : p2 = [dx2, dy2] := by rw [List.getElem?_map, HX2.out] at hp2; simp [pairL] at hp2; exact hp2.symm
    subst e1 e2
    obtain rfl : m1 = 2 := by have := hr1.len; simp at this; omega
    obtain rfl : m2 = 2 := by have := hr2.len; simp at this; omega
    obtain ⟨gv1, rfl, hgv1, hgw1⟩ := hr1.some_ (k := 0) (by omega)
    obtain ⟨gv2, rfl, hgv2, hgw2⟩ := hr2.some_ (k := 0) (by omega)
    have x0 := hr1.cell (k := 0) (x := dx1) rfl; have x1 := hr1.cell (k := 1) (x := dy1) rfl
    have y0 := hr2.cell (k := 0) (x := dx2) rfl; have y1 := hr2.cell (k := 1) (x := dy2) rfl
    have hc1 := hr1.cap; have hc2 := hr2.cap
    have b0 := (hbw.cell (p := ⟨w.heap.size, 0, none⟩) hwg).trans a0; have b1 := (hbw.cell (p := ⟨w.heap.size, 1, none⟩) hwg).trans a1; have b2 := (hbw.cell (p := ⟨w.heap.size, 2, none⟩) hwg).trans a2; have b3 := (hbw.cell (p := ⟨w.heap.size, 3, none⟩) hwg).trans a3
    have bl : w.heap.size < wr.heap.size := by have := hbw.size; omega
    have hgl := hsee.lt
    have hsw := hbw.size
    have HO := Lib.hid hown; have HSE := Lib.hid hsee; have HB := Lib.hid hbw; have HND := Lib.hid hnd; have HIN := Lib.hid hin; have HFU := Lib.hid hfu; have HGO := Lib.hid hgo; have HQ := Lib.hid hq; have HNK := Lib.hid hnk
    have hwN : IntKind.i64.wrap ((n' : Int) - 1) = (k : Int) := by rw [show ((n' : Int) - 1) = (k : Int) by omega]; exact IntWalk.i64_in _ (by omega)
    have hwk : IntKind.i64.wrap ((k : Int) + 1 + 1) = (k : Int) + 1 + 1 := IntWalk.i64_in _ (by omega)
    have hk0 : (0 : Int) ≤ (k : Int) := by omega
    have hkn : (k : Int) < (n' : Int) := by omega
    have f2 : (f : Int) < (n1 : Int) := by omega
    have s2 : (s : Int) < (n1 : Int) := by omega
    have hk1 : (0 : Int) ≤ (k : Int) + 1 := by omega
    have htm : ((k : Int) + 1).tmod t = ((k : Int) + 1) % t := Int.tmod_eq_emod_of_nonneg hk1
    have HNXT := Lib.hid (show nextT W H ac up (dx1, dy1) (dx2, dy2) t P n = if ((k : Int) + 1) % t = 0 then stepA W H ac up n dx2 dy2 else stepA W H ac up n dx1 dy1 by rw [nextT, hPk.out]; rfl)
    have HRG := Lib.hid (nextT_rng W H ac up (dx1, dy1) (dx2, dy2) t P n)
    have HS1 := Lib.hid (fun w' => arStep_any W H ac up n dx1 dy1 w' HG.out (by omega) (by have := HB1.out; omega) (by have := HB1.out; omega))
    have HS2 := Lib.hid (fun w' => arStep_any W H ac up n dx2 dy2 w' HG.out (by omega) (by have := HB2.out; omega) (by have := HB2.out; omega))
    obtain ⟨S, hS⟩ : ∃ S, nextT W H ac up (dx1, dy1) (dx2, dy2) t P n = S := ⟨_, rfl⟩
    rw [hS] at HGO HNXT HRG
    clear hown hsee hbw hnd hin hfu hgo hq hp1 hp2 hr1 hr2 hnk hS hgv1 hgv2 hg1 hg2
    obtain ⟨M, hM⟩ : ∃ M, ((k : Int) + 1) % t = M := ⟨_, rfl⟩
    rw [hM] at htm HNXT
    by_cases hm : M = 0
    · subst hm
      have HE := Lib.hid (show stepA W H ac up n dx2 dy2 = S from (HNXT.out.trans (if_pos rfl)).symm)
      have HSC := HS2
      rw [HE.out] at HSC
      clear HS1 HS2 hM
      go_wp2_with fail
      refine wp_region_held_drew (S := fun w' => w'.cell? ⟨w.heap.size, 0, none⟩ = some (.int .i64 W) ∧ w'.cell? ⟨w.heap.size, 1, none⟩ = some (.int .i64 H) ∧ w'.cell? ⟨w.heap.size, 2, none⟩ = some (.bool ac) ∧ w'.cell? ⟨w.heap.size, 3, none⟩ = some (.bool up) ∧ w'.cell? ⟨gv2, 0, none⟩ = some (.int .i64 dx2) ∧ w'.cell? ⟨gv2, 1, none⟩ = some (.int .i64 dy2) ∧ w'.cell? ⟨go1, k, none⟩ = some (.int .i64 n)) (by kernel_rfl) ?_ (fun hHeld => ?_)
      · (try dsimp only)
        exact ⟨b0, b1, b2, b3, y0, y1, z0⟩
      refine wpAnyH_take (i := 0) (oi := ⟨_, _, _, _, _, _⟩) (v := ?_) rfl (by kernel_rfl) (by kernel_rfl) (by kernel_rfl) (fun _ _ _ h => h) (Or.inl ⟨by rfl, ?_⟩) (by assumption) ?_
      rotate_left
      · intro w hSw
        (try dsimp only at hSw)
        go_simp
        (try with_reducible rfl)
      (try simp only [Act.put, List.setIfInBounds_toArray, List.set_cons_zero, List.set_cons_succ])
      refine wpAnyH_take (i := 1) (oi := ⟨_, _, _, _, _, _⟩) (v := ?_) rfl (by kernel_rfl) (by kernel_rfl) (by kernel_rfl) (fun _ _ _ h => h) (Or.inl ⟨by rfl, ?_⟩) (by assumption) ?_
      rotate_left
      · intro w hSw
        (try dsimp only at hSw)
        go_simp
        (try with_reducible rfl)
      (try simp only [Act.put, List.setIfInBounds_toArray, List.set_cons_zero, List.set_cons_succ])
      refine wpAnyH_take (i := 2) (oi := ⟨_, _, _, _, _, _⟩) (v := ?_) rfl (by kernel_rfl) (by kernel_rfl) (by kernel_rfl) (fun _ _ _ h => h) (Or.inl ⟨by rfl, ?_⟩) (by assumption) ?_
      rotate_left
      · intro w hSw
        (try dsimp only at hSw)
        go_simp
        (try with_reducible rfl)
      (try simp only [Act.put, List.setIfInBounds_toArray, List.set_cons_zero, List.set_cons_succ])
      refine wpAnyH_take (i := 7) (oi := ⟨_, _, _, _, _, _⟩) (v := ?_) rfl (by kernel_rfl) (by kernel_rfl) (by kernel_rfl) (fun _ _ _ h => h) (Or.inl ⟨by rfl, ?_⟩) (by assumption) ?_
      rotate_left
      · intro w hSw
        (try dsimp only at hSw)
        go_simp
        (try with_reducible rfl)
      (try simp only [Act.put, List.setIfInBounds_toArray, List.set_cons_zero, List.set_cons_succ])
      refine wpAnyH_take (i := 10) (oi := ⟨_, _, _, _, _, _⟩) (v := ?_) rfl (by kernel_rfl) (by kernel_rfl) (by kernel_rfl) (fun _ _ _ h => h) (Or.inl ⟨by rfl, ?_⟩) (by assumption) ?_
      rotate_left
      · intro w hSw
        (try dsimp only at hSw)
        go_simp
        (try with_reducible rfl)
      (try simp only [Act.put, List.setIfInBounds_toArray, List.set_cons_zero, List.set_cons_succ])
      refine wpAnyH_take (i := 3) (oi := ⟨_, _, _, _, _, _⟩) (v := ?_) rfl (by kernel_rfl) (by kernel_rfl) (by kernel_rfl) (fun _ _ _ h => h) (Or.inl ⟨by rfl, ?_⟩) (by assumption) ?_
      rotate_left
      · intro w hSw
        (try dsimp only at hSw)
        go_simp
        (try with_reducible rfl)
      (try simp only [Act.put, List.setIfInBounds_toArray, List.set_cons_zero, List.set_cons_succ])
      refine wpAnyH_take (i := 8) (oi := ⟨_, _, _, _, _, _⟩) (v := ?_) rfl (by kernel_rfl) (by kernel_rfl) (by kernel_rfl) (fun _ _ _ h => h) (Or.inl ⟨by rfl, ?_⟩) (by assumption) ?_
      rotate_left
      · intro w hSw
        (try dsimp only at hSw)
        go_simp
        (try with_reducible rfl)
      (try simp only [Act.put, List.setIfInBounds_toArray, List.set_cons_zero, List.set_cons_succ])
      refine wpAnyH_take (i := 11) (oi := ⟨_, _, _, _, _, _⟩) (v := ?_) rfl (by kernel_rfl) (by kernel_rfl) (by kernel_rfl) (fun _ _ _ h => h) (Or.inl ⟨by rfl, ?_⟩) (by assumption) ?_
      rotate_left
      · intro w hSw
        (try dsimp only at hSw)
        go_simp
        (try with_reducible rfl)
      (try simp only [Act.put, List.setIfInBounds_toArray, List.set_cons_zero, List.set_cons_succ])
      refine wpAnyH_take (i := 4) (oi := ⟨_, _, _, _, _, _⟩) (v := ?_) rfl (by kernel_rfl) (by kernel_rfl) (by kernel_rfl) (fun _ _ _ h => h) (Or.inl ⟨by rfl, ?_⟩) (by assumption) ?_
      rotate_left
      · intro w hSw
        (try dsimp only at hSw)
        go_simp
        (try with_reducible rfl)
      (try simp only [Act.put, List.setIfInBounds_toArray, List.set_cons_zero, List.set_cons_succ])
      refine wpAnyH_take (i := 9) (oi := ⟨_, _, _, _, _, _⟩) (v := ?_) rfl (by kernel_rfl) (by kernel_rfl) (by kernel_rfl) (fun _ _ _ h => h) (Or.inl ⟨by rfl, ?_⟩) (by assumption) ?_
      rotate_left
      · intro w hSw
        (try dsimp only at hSw)
        go_simp
        (try with_reducible rfl)
      (try simp only [Act.put, List.setIfInBounds_toArray, List.set_cons_zero, List.set_cons_succ])
      refine wpAnyH_take (i := 12) (oi := ⟨_, _, _, _, _, _⟩) (v := ?_) rfl (by kernel_rfl) (by kernel_rfl) (by kernel_rfl) (fun _ _ _ h => h) (Or.inl ⟨by rfl, ?_⟩) (by assumption) ?_
      rotate_left
      · intro w hSw
        (try dsimp only at hSw)
        go_simp
        (try with_reducible rfl)
      (try simp only [Act.put, List.setIfInBounds_toArray, List.set_cons_zero, List.set_cons_succ])
      refine wpAnyH_take (i := 5) (oi := ⟨_, _, _, _, _, _⟩) (v := ?_) rfl (by kernel_rfl) (by kernel_rfl) (by kernel_rfl) (fun _ _ _ h => h) (Or.inl ⟨by rfl, ?_⟩) (by assumption) ?_
      rotate_left
      · intro w hSw
        (try dsimp only at hSw)
        go_simp
        (try with_reducible rfl)
      (try simp only [Act.put, List.setIfInBounds_toArray, List.set_cons_zero, List.set_cons_succ])
      refine wpAnyH_take (i := 6) (oi := ⟨_, _, _, _, _, _⟩) (v := ?_) rfl (by kernel_rfl) (by kernel_rfl) (by kernel_rfl) (fun _ _ _ h => h) (Or.inl ⟨by rfl, ?_⟩) (by assumption) ?_
      rotate_left
      · intro w hSw
        (try dsimp only at hSw)
        go_simp
        (try with_reducible rfl)
      (try simp only [Act.put, List.setIfInBounds_toArray, List.set_cons_zero, List.set_cons_succ])
      refine wpAnyH_ready (rs := [13]) (by kernel_rfl) (by simp) ?_
      refine AllReadyH.cons (o := ⟨_, _, _, _, _, _⟩) rfl (fun K hK => ?_) AllReadyH.nil
      go_simp
      (go_at_call 54; refine (HSC.out _).mono ?_; rintro e wx ⟨rfl, hb⟩; (repeat (first | replace hb := below_undrew hb | replace hb := below_undrewN hb)); replace b0 := cell_keep b0 bl hb; replace b1 := cell_keep b1 bl hb; replace b2 := cell_keep b2 bl hb; replace b3 := cell_keep b3 bl hb; replace bl := lt_keep bl hb; replace y0 := cell_keep y0 hgw2 hb; replace y1 := cell_keep y1 hgw2 hb; replace hgw2 := lt_keep hgw2 hb; replace z0 := cell_keep z0 hgo2 hb; replace hgo2 := lt_keep hgo2 hb; replace HO := Lib.hid (HO.out.keep hb); replace HSE := Lib.hid (HSE.out.keep hb); replace HB := Lib.hid (HB.out.trans (hb.mono (by omega))); replace hsw := HB.out.size; replace hgl := lt_keep hgl hb; clear hb)
      (try go_wp2_with fail)
      refine hK.out _ _ ?_ (fun hHeld => ?_)
      · (try dsimp only)
        exact ⟨b0, b1, b2, b3, y0, y1, z0⟩
      clear hK K
      (try simp only [Act.put, List.setIfInBounds_toArray, List.set_cons_zero, List.set_cons_succ])
      refine wpAnyH_take (i := 14) (oi := ⟨_, _, _, _, _, _⟩) (v := ?_) rfl (by kernel_rfl) (by kernel_rfl) (by kernel_rfl) (fun _ _ _ h => h) (Or.inl ⟨by rfl, ?_⟩) (by assumption) ?_
      rotate_left
      · intro w hSw
        (try dsimp only at hSw)
        go_simp
        (try with_reducible rfl)
      (try simp only [Act.put, List.setIfInBounds_toArray, List.set_cons_zero, List.set_cons_succ])
      refine wpAnyH_done (by kernel_rfl) ?_ _
      clear hHeld
      have hS0 := HRG.out
      by_cases hs : S < 0
      · have HR := Lib.hid (HGO.out.trans (goT_stop (by omega)))
        clear hS0 b0 b1 b2 b3 bl z0 x0 x1 y0 y1 hcl1 hcl2
        go_wp2
        go_ret
        exact ⟨_, n', c', rfl, by rw [HTL.out, HR.out]; exact HO.out.lower (by omega), B.out.trans (HB4.out.mono (by omega) |>.trans (HB.out.mono (by omega)))⟩
      · obtain ⟨j, rfl⟩ : ∃ j : Nat, S = (j : Int) := ⟨S.toNat, by omega⟩
        have hj : j < N := by omega
        have d0 := HSE.out.cell (seenL_at (P := P) hj)
        have df := HSE.out.frozen j
        have hjN : (j : Int) < (N : Int) := by omega
        have hj0 : (0 : Int) ≤ (j : Int) := by omega
        by_cases hmem : (j : Int) ∈ P
        · have HR := Lib.hid (HGO.out.trans (goT_stop (fun h => h.2 hmem)))
          rw [decide_eq_true hmem] at d0
          clear hS0 b0 b1 b2 b3 bl z0 x0 x1 y0 y1 hcl1 hcl2 df
          go_wp2
          go_ret
          exact ⟨_, n', c', rfl, by rw [HTL.out, HR.out]; exact HO.out.lower (by omega), B.out.trans (HB4.out.mono (by omega) |>.trans (HB.out.mono (by omega)))⟩
        · obtain ⟨fu2, hu1, hu2, hu3, hu4, hu5⟩ := goT_go (W := W) (H := H) (t := t) (ac := ac) (up := up) (s1 := (dx1, dy1)) (s2 := (dx2, dy2)) HND.out HIN.out HFU.out hj0 hjN hmem
          have HU2 := Lib.hid hu2; have HU3 := Lib.hid (HGO.out.trans hu3); have HU4 := Lib.hid hu4; have HU5 := Lib.hid hu5
          rw [decide_eq_false hmem] at d0
          obtain ⟨st, sg⟩ := HSE.out.stored j true
          rw [seenL_set (i := j)] at st
          obtain ⟨W6, hW6⟩ : ∃ W6, W6 = wx.setCell ⟨gb, j, none⟩ (.bool true) := ⟨_, rfl⟩
          rw [← hW6] at st sg
          have ST2 := Lib.hid st; have SG := Lib.hid sg
          have HO2 := Lib.hid (HO.out.other sg (fun a ha => by injection ha with ha; rw [← ha]; simp; omega))
          have HB6 := Lib.hid (HB.out.trans (below_of_grown sg (by omega) (fun g h => by injection h with h; omega)))
          have hs6 : gb + 1 ≤ W6.heap.size := by have := sg.size; omega
          have hn9 : n' ≤ 1000000 := by have := HNK.out; omega
          clear hS0 b0 b1 b2 b3 bl z0 x0 x1 y0 y1 hcl1 hcl2 hu1 hu2 hu3 hu4 hu5 st sg hmem
          go_upto_region 14 with fail
          rw [← hW6]
          clear hW6 d0 df
          go_wp2_with (at_builtin; refine wpList_app1 rfl (.tmp 68) (.tmp 70) 33 3 rfl i0 Try.underlying33 HI.out HZ0.out HZ1.out HZ2.out (gb + 1) (some ⟨go1, 0, none⟩) n' c' P (j : Int) rfl HO2.out rfl hn9 hs6 ?_; intro A3 c3 w5 hown3 hb5)
          have O3 := Lib.hid hown3
          have B5 := Lib.hid (HB6.out.trans (hb5.mono (by omega)))
          have S5 := Lib.hid (ST2.out.keepLo hb5 (by omega))
          clear hown3 hb5
          go_wp2
          go_roundw
          case rel => exact ⟨k + 1, n' + 1, c3, fu2, A3, P ++ [(j : Int)], (j : Int), by go_num, rfl, by have := HNK.out; omega, O3.out, by rw [List.getElem?_append_right (by rw [hPk.out]; omega), hPk.out]; simp, HU4.out, HU5.out, HU2.out, HU3.out, S5.out, B5.out⟩
          case measure =>
            have h2 := HU2.out
            rw [List.length_append, hPk.out, List.length_singleton] at h2
            simp [intOf]; omega
    · have hmb : (M == 0) = false := by simpa using hm
      have HE := Lib.hid (show stepA W H ac up n dx1 dy1 = S from (HNXT.out.trans (if_neg hm)).symm)
      have HSC := HS1
      rw [HE.out] at HSC
      clear HS1 HS2 hM
      go_wp2_with fail
      refine wp_region_held_drew (S := fun w' => w'.cell? ⟨w.heap.size, 0, none⟩ = some (.int .i64 W) ∧ w'.cell? ⟨w.heap.size, 1, none⟩ = some (.int .i64 H) ∧ w'.cell? ⟨w.heap.size, 2, none⟩ = some (.bool ac) ∧ w'.cell? ⟨w.heap.size, 3, none⟩ = some (.bool up) ∧ w'.cell? ⟨gv1, 0, none⟩ = some (.int .i64 dx1) ∧ w'.cell? ⟨gv1, 1, none⟩ = some (.int .i64 dy1) ∧ w'.cell? ⟨go1, k, none⟩ = some (.int .i64 n)) (by kernel_rfl) ?_ (fun hHeld => ?_)
      · (try dsimp only)
        exact ⟨b0, b1, b2, b3, x0, x1, z0⟩
      refine wpAnyH_take (i := 0) (oi := ⟨_, _, _, _, _, _⟩) (v := ?_) rfl (by kernel_rfl) (by kernel_rfl) (by kernel_rfl) (fun _ _ _ h => h) (Or.inl ⟨by rfl, ?_⟩) (by assumption) ?_
      rotate_left
      · intro w hSw
        (try dsimp only at hSw)
        go_simp
        (try with_reducible rfl)
      (try simp only [Act.put, List.setIfInBounds_toArray, List.set_cons_zero, List.set_cons_succ])
      refine wpAnyH_take (i := 1) (oi := ⟨_, _, _, _, _, _⟩) (v := ?_) rfl (by kernel_rfl) (by kernel_rfl) (by kernel_rfl) (fun _ _ _ h => h) (Or.inl ⟨by rfl, ?_⟩) (by assumption) ?_
      rotate_left
      · intro w hSw
        (try dsimp only at hSw)
        go_simp
        (try with_reducible rfl)
      (try simp only [Act.put, List.setIfInBounds_toArray, List.set_cons_zero, List.set_cons_succ])
      refine wpAnyH_take (i := 2) (oi := ⟨_, _, _, _, _, _⟩) (v := ?_) rfl (by kernel_rfl) (by kernel_rfl) (by kernel_rfl) (fun _ _ _ h => h) (Or.inl ⟨by rfl, ?_⟩) (by assumption) ?_
      rotate_left
      · intro w hSw
        (try dsimp only at hSw)
        go_simp
        (try with_reducible rfl)
      (try simp only [Act.put, List.setIfInBounds_toArray, List.set_cons_zero, List.set_cons_succ])
      refine wpAnyH_take (i := 7) (oi := ⟨_, _, _, _, _, _⟩) (v := ?_) rfl (by kernel_rfl) (by kernel_rfl) (by kernel_rfl) (fun _ _ _ h => h) (Or.inl ⟨by rfl, ?_⟩) (by assumption) ?_
      rotate_left
      · intro w hSw
        (try dsimp only at hSw)
        go_simp
        (try with_reducible rfl)
      (try simp only [Act.put, List.setIfInBounds_toArray, List.set_cons_zero, List.set_cons_succ])
      refine wpAnyH_take (i := 10) (oi := ⟨_, _, _, _, _, _⟩) (v := ?_) rfl (by kernel_rfl) (by kernel_rfl) (by kernel_rfl) (fun _ _ _ h => h) (Or.inl ⟨by rfl, ?_⟩) (by assumption) ?_
      rotate_left
      · intro w hSw
        (try dsimp only at hSw)
        go_simp
        (try with_reducible rfl)
      (try simp only [Act.put, List.setIfInBounds_toArray, List.set_cons_zero, List.set_cons_succ])
      refine wpAnyH_take (i := 3) (oi := ⟨_, _, _, _, _, _⟩) (v := ?_) rfl (by kernel_rfl) (by kernel_rfl) (by kernel_rfl) (fun _ _ _ h => h) (Or.inl ⟨by rfl, ?_⟩) (by assumption) ?_
      rotate_left
      · intro w hSw
        (try dsimp only at hSw)
        go_simp
        (try with_reducible rfl)
      (try simp only [Act.put, List.setIfInBounds_toArray, List.set_cons_zero, List.set_cons_succ])
      refine wpAnyH_take (i := 8) (oi := ⟨_, _, _, _, _, _⟩) (v := ?_) rfl (by kernel_rfl) (by kernel_rfl) (by kernel_rfl) (fun _ _ _ h => h) (Or.inl ⟨by rfl, ?_⟩) (by assumption) ?_
      rotate_left
      · intro w hSw
        (try dsimp only at hSw)
        go_simp
        (try with_reducible rfl)
      (try simp only [Act.put, List.setIfInBounds_toArray, List.set_cons_zero, List.set_cons_succ])
      refine wpAnyH_take (i := 11) (oi := ⟨_, _, _, _, _, _⟩) (v := ?_) rfl (by kernel_rfl) (by kernel_rfl) (by kernel_rfl) (fun _ _ _ h => h) (Or.inl ⟨by rfl, ?_⟩) (by assumption) ?_
      rotate_left
      · intro w hSw
        (try dsimp only at hSw)
        go_simp
        (try with_reducible rfl)
      (try simp only [Act.put, List.setIfInBounds_toArray, List.set_cons_zero, List.set_cons_succ])
      refine wpAnyH_take (i := 4) (oi := ⟨_, _, _, _, _, _⟩) (v := ?_) rfl (by kernel_rfl) (by kernel_rfl) (by kernel_rfl) (fun _ _ _ h => h) (Or.inl ⟨by rfl, ?_⟩) (by assumption) ?_
      rotate_left
      · intro w hSw
        (try dsimp only at hSw)
        go_simp
        (try with_reducible rfl)
      (try simp only [Act.put, List.setIfInBounds_toArray, List.set_cons_zero, List.set_cons_succ])
      refine wpAnyH_take (i := 9) (oi := ⟨_, _, _, _, _, _⟩) (v := ?_) rfl (by kernel_rfl) (by kernel_rfl) (by kernel_rfl) (fun _ _ _ h => h) (Or.inl ⟨by rfl, ?_⟩) (by assumption) ?_
      rotate_left
      · intro w hSw
        (try dsimp only at hSw)
        go_simp
        (try with_reducible rfl)
      (try simp only [Act.put, List.setIfInBounds_toArray, List.set_cons_zero, List.set_cons_succ])
      refine wpAnyH_take (i := 12) (oi := ⟨_, _, _, _, _, _⟩) (v := ?_) rfl (by kernel_rfl) (by kernel_rfl) (by kernel_rfl) (fun _ _ _ h => h) (Or.inl ⟨by rfl, ?_⟩) (by assumption) ?_
      rotate_left
      · intro w hSw
        (try dsimp only at hSw)
        go_simp
        (try with_reducible rfl)
      (try simp only [Act.put, List.setIfInBounds_toArray, List.set_cons_zero, List.set_cons_succ])
      refine wpAnyH_take (i := 5) (oi := ⟨_, _, _, _, _, _⟩) (v := ?_) rfl (by kernel_rfl) (by kernel_rfl) (by kernel_rfl) (fun _ _ _ h => h) (Or.inl ⟨by rfl, ?_⟩) (by assumption) ?_
      rotate_left
      · intro w hSw
        (try dsimp only at hSw)
        go_simp
        (try with_reducible rfl)
      (try simp only [Act.put, List.setIfInBounds_toArray, List.set_cons_zero, List.set_cons_succ])
      refine wpAnyH_take (i := 6) (oi := ⟨_, _, _, _, _, _⟩) (v := ?_) rfl (by kernel_rfl) (by kernel_rfl) (by kernel_rfl) (fun _ _ _ h => h) (Or.inl ⟨by rfl, ?_⟩) (by assumption) ?_
      rotate_left
      · intro w hSw
        (try dsimp only at hSw)
        go_simp
        (try with_reducible rfl)
      (try simp only [Act.put, List.setIfInBounds_toArray, List.set_cons_zero, List.set_cons_succ])
      refine wpAnyH_ready (rs := [13]) (by kernel_rfl) (by simp) ?_
      refine AllReadyH.cons (o := ⟨_, _, _, _, _, _⟩) rfl (fun K hK => ?_) AllReadyH.nil
      go_simp
      (go_at_call 54; refine (HSC.out _).mono ?_; rintro e wx ⟨rfl, hb⟩; (repeat (first | replace hb := below_undrew hb | replace hb := below_undrewN hb)); replace b0 := cell_keep b0 bl hb; replace b1 := cell_keep b1 bl hb; replace b2 := cell_keep b2 bl hb; replace b3 := cell_keep b3 bl hb; replace bl := lt_keep bl hb; replace x0 := cell_keep x0 hgw1 hb; replace x1 := cell_keep x1 hgw1 hb; replace hgw1 := lt_keep hgw1 hb; replace z0 := cell_keep z0 hgo2 hb; replace hgo2 := lt_keep hgo2 hb; replace HO := Lib.hid (HO.out.keep hb); replace HSE := Lib.hid (HSE.out.keep hb); replace HB := Lib.hid (HB.out.trans (hb.mono (by omega))); replace hsw := HB.out.size; replace hgl := lt_keep hgl hb; clear hb)
      (try go_wp2_with fail)
      refine hK.out _ _ ?_ (fun hHeld => ?_)
      · (try dsimp only)
        exact ⟨b0, b1, b2, b3, x0, x1, z0⟩
      clear hK K
      (try simp only [Act.put, List.setIfInBounds_toArray, List.set_cons_zero, List.set_cons_succ])
      refine wpAnyH_take (i := 14) (oi := ⟨_, _, _, _, _, _⟩) (v := ?_) rfl (by kernel_rfl) (by kernel_rfl) (by kernel_rfl) (fun _ _ _ h => h) (Or.inl ⟨by rfl, ?_⟩) (by assumption) ?_
      rotate_left
      · intro w hSw
        (try dsimp only at hSw)
        go_simp
        (try with_reducible rfl)
      (try simp only [Act.put, List.setIfInBounds_toArray, List.set_cons_zero, List.set_cons_succ])
      refine wpAnyH_done (by kernel_rfl) ?_ _
      clear hHeld
      have hS0 := HRG.out
      by_cases hs : S < 0
      · have HR := Lib.hid (HGO.out.trans (goT_stop (by omega)))
        clear hS0 b0 b1 b2 b3 bl z0 x0 x1 y0 y1 hcl1 hcl2
        go_wp2
        go_ret
        exact ⟨_, n', c', rfl, by rw [HTL.out, HR.out]; exact HO.out.lower (by omega), B.out.trans (HB4.out.mono (by omega) |>.trans (HB.out.mono (by omega)))⟩
      · obtain ⟨j, rfl⟩ : ∃ j : Nat, S = (j : Int) := ⟨S.toNat, by omega⟩
        have hj : j < N := by omega
        have d0 := HSE.out.cell (seenL_at (P := P) hj)
        have df := HSE.out.frozen j
        have hjN : (j : Int) < (N : Int) := by omega
        have hj0 : (0 : Int) ≤ (j : Int) := by omega
        by_cases hmem : (j : Int) ∈ P
        · have HR := Lib.hid (HGO.out.trans (goT_stop (fun h => h.2 hmem)))
          rw [decide_eq_true hmem] at d0
          clear hS0 b0 b1 b2 b3 bl z0 x0 x1 y0 y1 hcl1 hcl2 df
          go_wp2
          go_ret
          exact ⟨_, n', c', rfl, by rw [HTL.out, HR.out]; exact HO.out.lower (by omega), B.out.trans (HB4.out.mono (by omega) |>.trans (HB.out.mono (by omega)))⟩
        · obtain ⟨fu2, hu1, hu2, hu3, hu4, hu5⟩ := goT_go (W := W) (H := H) (t := t) (ac := ac) (up := up) (s1 := (dx1, dy1)) (s2 := (dx2, dy2)) HND.out HIN.out HFU.out hj0 hjN hmem
          have HU2 := Lib.hid hu2; have HU3 := Lib.hid (HGO.out.trans hu3); have HU4 := Lib.hid hu4; have HU5 := Lib.hid hu5
          rw [decide_eq_false hmem] at d0
          obtain ⟨st, sg⟩ := HSE.out.stored j true
          rw [seenL_set (i := j)] at st
          obtain ⟨W6, hW6⟩ : ∃ W6, W6 = wx.setCell ⟨gb, j, none⟩ (.bool true) := ⟨_, rfl⟩
          rw [← hW6] at st sg
          have ST2 := Lib.hid st; have SG := Lib.hid sg
          have HO2 := Lib.hid (HO.out.other sg (fun a ha => by injection ha with ha; rw [← ha]; simp; omega))
          have HB6 := Lib.hid (HB.out.trans (below_of_grown sg (by omega) (fun g h => by injection h with h; omega)))
          have hs6 : gb + 1 ≤ W6.heap.size := by have := sg.size; omega
          have hn9 : n' ≤ 1000000 := by have := HNK.out; omega
          clear hS0 b0 b1 b2 b3 bl z0 x0 x1 y0 y1 hcl1 hcl2 hu1 hu2 hu3 hu4 hu5 st sg hmem
          go_upto_region 14 with fail
          rw [← hW6]
          clear hW6 d0 df
          go_wp2_with (at_builtin; refine wpList_app1 rfl (.tmp 68) (.tmp 70) 33 3 rfl i0 Try.underlying33 HI.out HZ0.out HZ1.out HZ2.out (gb + 1) (some ⟨go1, 0, none⟩) n' c' P (j : Int) rfl HO2.out rfl hn9 hs6 ?_; intro A3 c3 w5 hown3 hb5)
          have O3 := Lib.hid hown3
          have B5 := Lib.hid (HB6.out.trans (hb5.mono (by omega)))
          have S5 := Lib.hid (ST2.out.keepLo hb5 (by omega))
          clear hown3 hb5
          go_wp2
          go_roundw
          case rel => exact ⟨k + 1, n' + 1, c3, fu2, A3, P ++ [(j : Int)], (j : Int), by go_num, rfl, by have := HNK.out; omega, O3.out, by rw [List.getElem?_append_right (by rw [hPk.out]; omega), hPk.out]; simp, HU4.out, HU5.out, HU2.out, HU3.out, S5.out, B5.out⟩
          case measure =>
            have h2 := HU2.out
            rw [List.length_append, hPk.out, List.length_singleton] at h2
            simp [intOf]; omega

end Go.Proofs.Ytaliknhfcdmohaa
