/-
  Contracts: CellsOnRoutes, the program.
-/
import Derived.Test.YtagdmdjofcjilaaR2
namespace Go.Proofs.Ytagdmdjofcjilaa
open Go.RowKit

theorem setRow_alloc_old (w : World) (o : Obj) (g : Nat) (cs : Array Value) (h : g < w.heap.size) : (w.alloc o).setRow g cs = (w.setRow g cs).alloc o := by
  simp only [World.setRow, World.alloc]
  congr 1
  apply Array.ext_getElem?
  intro i
  rw [Array.getElem?_modify, Array.getElem?_push, Array.getElem?_push, Array.size_modify, Array.getElem?_modify]
  by_cases e : i = w.heap.size
  · rw [if_pos e, if_pos e, if_neg (by omega)]
  · rw [if_neg e, if_neg e]
theorem wpList_store64g {ops : Array Oper} {rest : List Oper} {o : Oper} {a : Act} {w0 : World} {Q : Exit → Act → World → Prop} (L : List Int) (hL : L.length = 64) (g : Nat) (hgw : g = w0.heap.size) (hg : o.guard = none) (x y : Operand)
    (ho : o.op = .store 73 x y) (hd : o.dst = none) (hx : a.eval x = .pointer (some ⟨g, 0, none⟩)) (hy : a.eval y = .agg (L.map (Value.int .i64)).toArray)
    (E : TypeId) (old : Array Value) (hold : old.size = 64) (h : wpList Try.prog ops Q rest a (w0.alloc (.cells (L.map (Value.int .i64)).toArray E))) :
    wpList Try.prog ops Q (o :: rest) a (w0.alloc (.cells old E)) := by
  subst hgw
  exact wpList_store64 L hL hg x y ho hd hx hy E old hold h
theorem wpList_store64b {ops : Array Oper} {rest : List Oper} {o : Oper} {a : Act} {w0 : World} {Q : Exit → Act → World → Prop} (L : List Int) (hL : L.length = 64) (hg : o.guard = none) (x y : Operand)
    (ho : o.op = .store 73 x y) (hd : o.dst = none) (hx : a.eval x = .pointer (some ⟨w0.heap.size, 0, none⟩)) (hy : a.eval y = .agg (L.map (Value.int .i64)).toArray)
    (E : TypeId) (old : Array Value) (hold : old.size = 64) (o2 : Obj) (h : wpList Try.prog ops Q rest a ((w0.alloc (.cells (L.map (Value.int .i64)).toArray E)).alloc o2)) :
    wpList Try.prog ops Q (o :: rest) a ((w0.alloc (.cells old E)).alloc o2) := by
  refine wpList_store_rowTo hg _ x y ho hd w0.heap.size (L.map (Value.int .i64)).toArray hx hy E old (show ((w0.heap.push _).push _)[w0.heap.size]? = _ by rw [Array.getElem?_push_lt (by simp), ← Array.getElem?_eq_getElem, Array.getElem?_push_size]) (by rw [infoDs]; simp [hL]) (by rw [hold]; simp [hL]) ?_ ?_
  · refine Array.all_eq_true_iff_forall_mem.2 (fun v hv => ?_)
    simp only [List.mem_toArray, List.mem_map] at hv
    obtain ⟨i, _, rfl⟩ := hv
    rfl
  · rw [setRow_alloc_old _ _ _ _ (by simp), World.setRow_alloc_new]; exact h
theorem pad_get {D : List Int} {m j : Nat} (h : j < D.length) : (D ++ List.replicate m (-1)).getD j 0 = D.getD j (-1) := by
  rw [List.getD_eq_getElem?_getD, List.getElem?_append_left h, List.getD_eq_getElem?_getD, List.getElem?_eq_getElem h]; rfl

set_option maxRecDepth 100000 in
set_option maxHeartbeats 4000000 in
theorem impl_CellsOnRoutes (W H : Int) (A : Option Addr) (n c : Nat) (xs : List Int) (a b : Int) (p : Int) (q : Int) (w : World) (ha : Rd w A n xs) :
    Calls Try.prog 24 #[brd W H A n c, lpr a b, .int .i64 p, .int .i64 q] w fun e w' => ∃ A' n' c', e = .returned (.tuple #[.slice A' n' c', .bool (onB W H xs a b [p, q])]) ∧ OwnI 3 w' w.heap.size A' n' c' (onRoutesV W H xs a b p q) ∧ Below w.heap.size w w' := by
  obtain ⟨i0, hi, hz0, hz1, hz2⟩ := info_parts infoI
  have HI := Lib.hid hi; have HZ0 := Lib.hid hz0; have HZ1 := Lib.hid hz1; have HZ2 := Lib.hid hz2
  clear hi hz0 hz1 hz2
  by_cases ho : onB W H xs a b [p, q] = true
  · have FO := on_facts (onB_two ho).1
    have HP := Lib.hid (onB_two ho).2.1
    have HQ := Lib.hid (onB_two ho).2.2
    obtain ⟨N, hN⟩ : ∃ N, N = (W * H).toNat := ⟨_, rfl⟩
    rw [← hN] at FO
    have hp0 := (hasB_iff.1 HP.out).1
    have hq0 := (hasB_iff.1 HQ.out).1
    rw [FO.wh] at hp0 hq0
    obtain ⟨s, rfl⟩ : ∃ s : Nat, p = (s : Int) := ⟨p.toNat, by omega⟩
    obtain ⟨t, rfl⟩ : ∃ t : Nat, q = (t : Int) := ⟨q.toNat, by omega⟩
    have hs : s < N := by omega
    have ht : t < N := by omega
    have HF := Lib.hid FO
    have n64 := FO.n.2
    have HD := Lib.hid (dist_at FO HP.out ht)
    have DLO := HD.out.2.1
    have DHI := HD.out.2.2
    have HO := Lib.hid ho
    obtain ⟨dv, hdv⟩ : ∃ dv, dv = distV W H xs a b (s : Int) (t : Int) := ⟨_, rfl⟩
    rw [← hdv] at DLO DHI
    have HDV := Lib.hid hdv
    have HWN := Lib.hid (show (W * H).toNat = N from hN.symm)
    have ANS : Hid (onRoutesV W H xs a b (s : Int) (t : Int) = selTo (routeSel (distL W H xs a b (s : Int)) (distL W H xs a b (t : Int)) dv) N) := Lib.hid (by rw [onRoutesV, if_pos ho, hdv, hN])
    clear FO hp0 hq0 hN hdv
    obtain ⟨W2, hW2⟩ : ∃ W2, W2 = ((w.alloc (.cells #[.int .i64 W, .int .i64 H, .slice A n c] 26)).alloc (.cells #[.int .i64 a, .int .i64 b] 37)).alloc (.cells #[.int .i64 (s : Int), .int .i64 (t : Int)] 3) := ⟨_, rfl⟩
    have hsz : W2.heap.size = w.heap.size + 3 := by rw [hW2]; simp
    have a0 : W2.cell? ⟨w.heap.size, 0, none⟩ = some (.int .i64 W) := by rw [hW2]; go_simp
    have a1 : W2.cell? ⟨w.heap.size, 1, none⟩ = some (.int .i64 H) := by rw [hW2]; go_simp
    have a2 : W2.cell? ⟨w.heap.size, 2, none⟩ = some (.slice A n c) := by rw [hW2]; go_simp
    have l0 : W2.cell? ⟨w.heap.size + 1, 0, none⟩ = some (.int .i64 a) := by rw [hW2]; go_simp
    have l1 : W2.cell? ⟨w.heap.size + 1, 1, none⟩ = some (.int .i64 b) := by rw [hW2]; go_simp
    have q0 : W2.cell? ⟨w.heap.size + 1 + 1, 0, none⟩ = some (.int .i64 (s : Int)) := by rw [hW2]; go_simp
    have q1 : W2.cell? ⟨w.heap.size + 1 + 1, 1, none⟩ = some (.int .i64 (t : Int)) := by rw [hW2]; go_simp
    have al : w.heap.size < W2.heap.size := by omega
    have ll : w.heap.size + 1 < W2.heap.size := by omega
    have B := Lib.hid (show Below w.heap.size w W2 by rw [hW2]; exact (((Below.refl _ _).alloc (Nat.le_refl _) _).alloc (by simp) _).alloc (by simp; omega) _)
    have RP := Lib.hid (show Rd W2 (some ⟨w.heap.size + 1 + 1, 0, none⟩) 2 [(s : Int), (t : Int)] from ⟨rfl, by omega, fun k hk => by
      have h2 : k = 0 ∨ k = 1 := by omega
      rcases h2 with rfl | rfl
      · exact ⟨_, 0, _, rfl, by omega, rfl, q0⟩
      · exact ⟨_, 0, _, rfl, by omega, rfl, q1⟩⟩)
    clear q0 q1
    go_enter Try.func24, Try.ntmps24
    go_wp2_with fail
    rw [← hW2]
    clear hW2
    refine (isLeaperOn_any W H A n c xs a b _ 2 2 _ W2 (ha.keep B.out) RP.out).mono ?_
    rw [ho]
    rintro e wv ⟨rfl, hb⟩
    replace a0 := cell_keep a0 al hb; replace a1 := cell_keep a1 al hb; replace a2 := cell_keep a2 al hb; replace l0 := cell_keep l0 ll hb; replace l1 := cell_keep l1 ll hb; replace al := lt_keep al hb; replace ll := lt_keep ll hb
    replace B := Lib.hid (below_next B.out hb)
    clear hb RP hsz
    go_wp2_with fail
    refine (onwardOf_any W H A n c xs a b _ (ha.keep B.out) HF.out.g HF.out.l).mono ?_
    rintro e wx ⟨mb, rfl, hom, hb⟩
    have HOM := Lib.hid hom
    replace a0 := cell_keep a0 al hb; replace a1 := cell_keep a1 al hb; replace a2 := cell_keep a2 al hb; replace l0 := cell_keep l0 ll hb; replace l1 := cell_keep l1 ll hb; replace al := lt_keep al hb; replace ll := lt_keep ll hb; replace B := Lib.hid (below_next B.out hb)
    clear hb hom
    go_wp2_with fail
    refine (distancesFrom_any _ mb (cellsL W H xs) (leapsL W H xs a b) s _ HOM.out (by omega) (cellsL_mem.2 HP.out) (cells_in HF.out) adj_in).mono ?_
    rintro e wy ⟨rfl, hb⟩
    replace HOM := Lib.hid (HOM.out.keep hb)
    replace a0 := cell_keep a0 al hb; replace a1 := cell_keep a1 al hb; replace a2 := cell_keep a2 al hb; replace l0 := cell_keep l0 ll hb; replace l1 := cell_keep l1 ll hb; replace al := lt_keep al hb; replace ll := lt_keep ll hb; replace B := Lib.hid (below_next B.out hb)
    clear hb
    go_wp2_with fail
    refine (distancesFrom_any _ mb (cellsL W H xs) (leapsL W H xs a b) t _ HOM.out (by omega) (cellsL_mem.2 HQ.out) (cells_in HF.out) adj_in).mono ?_
    rintro e wz ⟨rfl, hb⟩
    replace a0 := cell_keep a0 al hb; replace a1 := cell_keep a1 al hb; replace a2 := cell_keep a2 al hb; replace l0 := cell_keep l0 ll hb; replace l1 := cell_keep l1 ll hb; replace al := lt_keep al hb; replace ll := lt_keep ll hb; replace B := Lib.hid (below_next B.out hb)
    clear hb HOM
    have h1 : (farL (leapsL W H xs a b) 64 (s : Int)).length = 64 := far_len64 HF.out HP.out
    have h2 : (farL (leapsL W H xs a b) 64 (t : Int)).length = 64 := far_len64 HF.out HQ.out
    have e1 := far64 HF.out HP.out
    have e2 := far64 HF.out HQ.out
    have LE1 := Lib.hid (dist_len HF.out HP.out); have LE2 := Lib.hid (dist_len HF.out HQ.out)
    generalize farL (leapsL W H xs a b) 64 (s : Int) = L1 at h1 e1 ⊢
    generalize farL (leapsL W H xs a b) 64 (t : Int) = L2 at h2 e2 ⊢
    have hc1 : ∀ j, j < N → (wz.alloc (.cells (L1.map (Value.int .i64)).toArray 73)).cell? ⟨wz.heap.size, j, none⟩ = some (.int .i64 ((distL W H xs a b (s : Int)).getD j (-1))) := fun j hj => by
      have h := cell_laid wz L1 73 j (by omega)
      rw [Nat.zero_add] at h
      rw [h, e1, pad_get (by rw [LE1.out]; exact hj)]
    have hc2 : ∀ j, j < N → ((wz.alloc (.cells (L1.map (Value.int .i64)).toArray 73)).alloc (.cells (L2.map (Value.int .i64)).toArray 73)).cell? ⟨wz.heap.size + 1, j, none⟩ = some (.int .i64 ((distL W H xs a b (t : Int)).getD j (-1))) := fun j hj => by
      have h := cell_laid (wz.alloc (.cells (L1.map (Value.int .i64)).toArray 73)) L2 73 j (by omega)
      rw [Nat.zero_add] at h
      have hz : (wz.alloc (.cells (L1.map (Value.int .i64)).toArray 73)).heap.size = wz.heap.size + 1 := by simp
      rw [hz] at h
      rw [h, e2, pad_get (by rw [LE2.out]; exact hj)]
    obtain ⟨W4, hW4⟩ : ∃ W4, W4 = (wz.alloc (.cells (L1.map (Value.int .i64)).toArray 73)).alloc (.cells (L2.map (Value.int .i64)).toArray 73) := ⟨_, rfl⟩
    have hs4 : W4.heap.size = wz.heap.size + 2 := by rw [hW4]; simp
    have hbe : Below wz.heap.size wz W4 := by rw [hW4]; exact below_new (below_new (Below.refl _ _) _) _
    have hc1' : ∀ j, j < N → W4.cell? ⟨wz.heap.size, j, none⟩ = some (.int .i64 ((distL W H xs a b (s : Int)).getD j (-1))) := fun j hj => by
      rw [hW4]; exact cell_keep (hc1 j hj) (by simp) (below_new (Below.refl _ _) _)
    rw [← hW4] at hc2
    have C1 := Lib.hid hc1'; have C2 := Lib.hid hc2
    replace a0 := cell_keep a0 al hbe; replace a1 := cell_keep a1 al hbe; replace a2 := cell_keep a2 al hbe; replace l0 := cell_keep l0 ll hbe; replace l1 := cell_keep l1 ll hbe; replace al := lt_keep al hbe; replace ll := lt_keep ll hbe; replace B := Lib.hid (below_next B.out hbe)
    have hdt : (distL W H xs a b (s : Int)).getD t (-1) = dv := by rw [List.getD_eq_getElem?_getD, HD.out.1, HDV.out]; rfl
    have c3 := C1.out t ht
    rw [hdt] at c3
    have HDT := Lib.hid hdt
    have hg1l : wz.heap.size < W4.heap.size := by omega
    have hg2l : wz.heap.size + 1 < W4.heap.size := by omega
    have t0 : (0 : Int) ≤ (t : Int) := by omega
    have t1 : (t : Int) < 64 := by omega
    have HS4 := Lib.hid hs4
    clear hc1 hc2 hc1' hbe e1 e2 hs4 hdt
    by_cases hn : dv = -1
    · subst hn
      go_wp2_with (first | (refine wpList_store64b L1 h1 rfl _ _ rfl rfl rfl rfl _ _ rfl _ ?_) | (refine wpList_store64g L2 h2 _ (by simp) rfl _ _ rfl rfl rfl rfl _ _ rfl ?_; rw [← hW4]; clear hW4))
      go_ret2
      exact ⟨none, 0, 0, by rw [HO.out]; rfl, by rw [ANS.out, selTo_none _ (fun i hi => by rw [routeSel]; simp; omega)]; exact OwnI.none_ _ _ _, B.out⟩
    · have hge : 0 ≤ dv := by omega
      have hn' : (dv == -1) = false := by simpa using hn
      go_wp2_with (first | (refine wpList_store64b L1 h1 rfl _ _ rfl rfl rfl rfl _ _ rfl _ ?_) | (refine wpList_store64g L2 h2 _ (by simp) rfl _ _ rfl rfl rfl rfl _ _ rfl ?_; rw [← hW4]; clear hW4))
      refine (cellsThere_any W H A n c xs _ (ha.keep B.out) HF.out.g).mono ?_
      rintro e ws ⟨A1, n1, cc1, rfl, hst, hb⟩
      replace c3 := cell_keep c3 hg1l hb
      replace C1 := Lib.hid (fun j hj => cell_keep (C1.out j hj) hg1l hb); replace C2 := Lib.hid (fun j hj => cell_keep (C2.out j hj) hg2l hb)
      replace hg1l := lt_keep hg1l hb; replace hg2l := lt_keep hg2l hb
      replace a0 := cell_keep a0 al hb; replace a1 := cell_keep a1 al hb; replace a2 := cell_keep a2 al hb; replace l0 := cell_keep l0 ll hb; replace l1 := cell_keep l1 ll hb; replace al := lt_keep al hb; replace ll := lt_keep ll hb; replace B := Lib.hid (below_next B.out hb)
      have ST := Lib.hid hst.rd
      have SL := Lib.hid hst.len
      have hN8 := cells_le (goodB_iff.1 HF.out.g).1 (goodB_iff.1 HF.out.g).2.1
      have n8 : n1 ≤ 64 := by have := cellsTo_len (W := W) (H := H) (hs := xs) (W * H).toNat; have := hst.len; unfold cellsL at *; omega
      have n9 := hst.rd.2.1
      obtain ⟨D1, hD1⟩ : ∃ D, D = distL W H xs a b (s : Int) := ⟨_, rfl⟩
      obtain ⟨D2, hD2⟩ : ∃ D, D = distL W H xs a b (t : Int) := ⟨_, rfl⟩
      have HD1 := Lib.hid hD1; have HD2 := Lib.hid hD2
      rw [← hD1] at C1 HDT; rw [← hD2] at C2
      have BD1 : Hid (∀ i, i < N → -1 ≤ D1.getD i (-1) ∧ D1.getD i (-1) ≤ 64) := Lib.hid (fun i hi => by rw [hD1]; exact dist_lo HF.out HP.out hi)
      have BD2 : Hid (∀ i, i < N → -1 ≤ D2.getD i (-1) ∧ D2.getD i (-1) ≤ 64) := Lib.hid (fun i hi => by rw [hD2]; exact dist_lo HF.out HQ.out hi)
      obtain ⟨fs, hfs⟩ : ∃ fs : Int → Bool, fs = fun x => decide (D1.getD x.toNat (-1) + D2.getD x.toNat (-1) = dv) := ⟨_, rfl⟩
      have FS := Lib.hid (fun x => congrFun hfs x)
      have HFS := Lib.hid hfs
      clear hst hb hN8 hD1 hD2 hfs hge
      go_wp2
      go_loopw [13, 39] (fun v i wr => ∃ (k n' c' : Nat) (A' : Option Addr), k ≤ n1 ∧ i = .int .i64 k ∧ v = .slice A' n' c' ∧ OwnI 3 wr ws.heap.size A' n' c' (((cellsL W H xs).take k).filter fs) ∧ Below ws.heap.size ws wr) (fun _ i _ => n1 - (intOf i).toNat)
      case atStart => exact ⟨0, 0, 0, none, by omega, rfl, rfl, by rw [List.take_zero]; exact OwnI.none_ _ _ _, Below.refl _ _⟩
      case round =>
        obtain ⟨k, n', c', A', hk, rfl, rfl, hown, hbw⟩ := hrel
        have hbsz := hbw.size
        by_cases hlt : k < n1
        · obtain ⟨bb, oo, x, rfl, hg9, hx, x0⟩ := (ST.out.keep hbw).at_ hlt
          have hin := cellsL_mem.1 (List.mem_of_getElem? hx)
          have hxr := (hasB_iff.1 hin).1
          rw [HF.out.wh] at hxr
          obtain ⟨xn, rfl⟩ : ∃ xn : Nat, x = (xn : Int) := ⟨x.toNat, by omega⟩
          have hxn : xn < N := by omega
          have hb1 := BD1.out xn hxn
          have hb2 := BD2.out xn hxn
          have c1 := cell_keep (C1.out xn hxn) hg1l hbw
          have c2 := cell_keep (C2.out xn hxn) hg2l hbw
          have c4 := cell_keep c3 hg1l hbw
          have hfx := FS.out (xn : Int)
          rw [Int.toNat_natCast] at hfx
          generalize D1.getD xn (-1) = x1 at hb1 c1 hfx
          generalize D2.getD xn (-1) = x2 at hb2 c2 hfx
          have hwr : IntKind.i64.wrap (x1 + x2) = x1 + x2 := IntWalk.i64_in _ (by omega)
          have x00 : (0 : Int) ≤ (xn : Int) := by omega
          have x01 : (xn : Int) < 64 := by omega
          have hn' : n' ≤ 64 := by have := List.length_filter_le fs ((cellsL W H xs).take k); rw [List.length_take] at this; have := hown.len; omega
          have hsnoc : ((cellsL W H xs).take (k + 1)).filter fs = ((cellsL W H xs).take k).filter fs ++ if fs (xn : Int) = true then [(xn : Int)] else [] := by
            rw [List.take_add_one, hx, List.filter_append]
            cases h9 : fs (xn : Int) <;> simp [h9]
          have HSN := Lib.hid hsnoc; have HFX := Lib.hid hfx
          have HO2 := Lib.hid hown; have HB := Lib.hid hbw
          clear hx hin hxr hown hbw hfx hsnoc hb1 hb2
          by_cases hE : x1 + x2 = dv
          · have hE' : (x1 + x2 == dv) = true := by simpa using hE
            have hf : fs (xn : Int) = true := by rw [HFX.out]; simpa using hE
            have HFT := Lib.hid hf
            clear hf hE
            go_wp2_with fail
            go_region_held3 (fun w' => w'.cell? ⟨wz.heap.size, xn, none⟩ = some (.int .i64 x1) ∧ w'.cell? ⟨wz.heap.size + 1, xn, none⟩ = some (.int .i64 x2) ∧ w'.cell? ⟨wz.heap.size, t, none⟩ = some (.int .i64 dv)) (first | exact ⟨c1, c2, c4⟩) (first | fail)
            replace HB := Lib.hid (below_drew HB.out); replace HO2 := Lib.hid HO2.out.drew1
            have hbsz2 := HB.out.size
            clear c1 c2 c4 hbsz x0
            generalize wr.drew = wd at *
            go_wp2_with (at_builtin; refine wpList_app1 rfl (.tmp 54) (.tmp 56) 22 3 rfl i0 Try.underlying22 HI.out HZ0.out HZ1.out HZ2.out ws.heap.size A' n' c' (((cellsL W H xs).take k).filter fs) (xn : Int) rfl HO2.out rfl (by omega) hbsz2 ?_; intro A2 c2' w2 hown2 hb2')
            have HO3 := Lib.hid hown2; have HB2 := Lib.hid (HB.out.trans hb2')
            clear hown2 hb2'
            go_wp2
            go_roundw
            case rel => exact ⟨k + 1, n' + 1, c2', A2, by omega, by go_num, rfl, by rw [HSN.out, if_pos HFT.out]; exact HO3.out, HB2.out⟩
            case measure => simp [intOf]; omega
          · have hE' : (x1 + x2 == dv) = false := by simpa using hE
            have hf : fs (xn : Int) = false := by rw [HFX.out]; simpa using hE
            have HFT := Lib.hid hf
            clear hf
            go_wp2_with fail
            go_region_held3 (fun w' => w'.cell? ⟨wz.heap.size, xn, none⟩ = some (.int .i64 x1) ∧ w'.cell? ⟨wz.heap.size + 1, xn, none⟩ = some (.int .i64 x2) ∧ w'.cell? ⟨wz.heap.size, t, none⟩ = some (.int .i64 dv)) (first | exact ⟨c1, c2, c4⟩) (first | fail)
            replace HB := Lib.hid (below_drew HB.out); replace HO2 := Lib.hid HO2.out.drew1
            clear c1 c2 c4 hbsz x0
            generalize wr.drew = wd at *
            go_wp2
            go_roundw
            case rel => exact ⟨k + 1, n', c', A', by omega, by go_num, rfl, by rw [HSN.out, if_neg (by rw [HFT.out]; simp), List.append_nil]; exact HO2.out, HB.out⟩
            case measure => simp [intOf]; omega
        · obtain rfl : k = n1 := by omega
          have HO2 := Lib.hid (hown.lower B.out.size); have HB := Lib.hid (below_next B.out hbw)
          have hd9 : 0 ≤ (distL W H xs a b (s : Int)).getD ((t : Int)).toNat (-1) := by rw [Int.toNat_natCast, ← HD1.out, HDT.out]; omega
          have eR : ((cellsL W H xs).take k).filter fs = onRoutesV W H xs a b (s : Int) (t : Int) := by
            rw [ANS.out, List.take_of_length_le (by have := SL.out; omega), cellsL, sel_filter, HWN.out, HFS.out, HD1.out, HD2.out]
            exact selTo_congr N (fun i hi => by
              have h := on_reach HF.out HP.out HQ.out hd9 hi (d := dv) (by omega)
              rw [← h]; rfl)
          rw [eR] at HO2
          clear hown hbw eR hd9
          go_wp2
          go_ret2
          exact ⟨_, _, _, by rw [HO.out]; rfl, HO2.out, HB.out⟩
  · have ho' : onB W H xs a b [p, q] = false := by simpa using ho
    obtain ⟨W2, hW2⟩ : ∃ W2, W2 = ((w.alloc (.cells #[.int .i64 W, .int .i64 H, .slice A n c] 26)).alloc (.cells #[.int .i64 a, .int .i64 b] 37)).alloc (.cells #[.int .i64 p, .int .i64 q] 3) := ⟨_, rfl⟩
    have hsz : W2.heap.size = w.heap.size + 3 := by rw [hW2]; simp
    have a0 : W2.cell? ⟨w.heap.size, 0, none⟩ = some (.int .i64 W) := by rw [hW2]; go_simp
    have a1 : W2.cell? ⟨w.heap.size, 1, none⟩ = some (.int .i64 H) := by rw [hW2]; go_simp
    have a2 : W2.cell? ⟨w.heap.size, 2, none⟩ = some (.slice A n c) := by rw [hW2]; go_simp
    have l0 : W2.cell? ⟨w.heap.size + 1, 0, none⟩ = some (.int .i64 a) := by rw [hW2]; go_simp
    have l1 : W2.cell? ⟨w.heap.size + 1, 1, none⟩ = some (.int .i64 b) := by rw [hW2]; go_simp
    have q0 : W2.cell? ⟨w.heap.size + 1 + 1, 0, none⟩ = some (.int .i64 p) := by rw [hW2]; go_simp
    have q1 : W2.cell? ⟨w.heap.size + 1 + 1, 1, none⟩ = some (.int .i64 q) := by rw [hW2]; go_simp
    have al : w.heap.size < W2.heap.size := by omega
    have ll : w.heap.size + 1 < W2.heap.size := by omega
    have B := Lib.hid (show Below w.heap.size w W2 by rw [hW2]; exact (((Below.refl _ _).alloc (Nat.le_refl _) _).alloc (by simp) _).alloc (by simp; omega) _)
    have RP := Lib.hid (show Rd W2 (some ⟨w.heap.size + 1 + 1, 0, none⟩) 2 [p, q] from ⟨rfl, by omega, fun k hk => by
      have h2 : k = 0 ∨ k = 1 := by omega
      rcases h2 with rfl | rfl
      · exact ⟨_, 0, _, rfl, by omega, rfl, q0⟩
      · exact ⟨_, 0, _, rfl, by omega, rfl, q1⟩⟩)
    clear q0 q1
    go_enter Try.func24, Try.ntmps24
    go_wp2_with fail
    rw [← hW2]
    clear hW2
    refine (isLeaperOn_any W H A n c xs a b _ 2 2 _ W2 (ha.keep B.out) RP.out).mono ?_
    rw [ho']
    rintro e wv ⟨rfl, hb⟩
    replace a0 := cell_keep a0 al hb; replace a1 := cell_keep a1 al hb; replace a2 := cell_keep a2 al hb; replace l0 := cell_keep l0 ll hb; replace l1 := cell_keep l1 ll hb; replace al := lt_keep al hb; replace ll := lt_keep ll hb
    replace B := Lib.hid (below_next B.out hb)
    clear hb RP hsz
    go_wp2
    go_ret2
    exact ⟨none, 0, 0, by rw [show onB W H xs a b [p, q] = false by rw [ho']]; rfl, by rw [onRoutesV, if_neg (by rw [ho']; simp)]; exact OwnI.none_ _ _ _, B.out⟩

end Go.Proofs.Ytagdmdjofcjilaa
