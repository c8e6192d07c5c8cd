/-
  Contracts: distances from a cell, in the model.
  Contracts: a leaper, a board and cells of it.
  An array of 64 ints, read at an index; distances of both sides.
  Contracts: DistancesFrom.
  The store of an array of 64 ints into a block just laid.
  Contracts: DistancesFrom, the program.
  Plain facts: which cells a search in width reaches; cells picked by a test.
  Plain facts: counts by distance, the first of the greatest distances.
  Cells picked by their distances; the contract of CellsWithin, the model.
  Contracts: CellsWithin, the program.
  Contracts: the first of the greatest distances; FarthestFrom, the model.
  Contracts: FarthestFrom, the program.
-/
import Derived.Test.YtomfgjbicpeggaaGreatBunHSidesOfParts5
import Derived.Test.YtomfgjbicpeggaaGreatBunHSidesOfParts4
import Derived.Deep.WholeRow
import Derived.Great.BuildSlice
import Derived.Lib.Slices
import Derived.Deep.MidRow
import Derived.Deep.RegionHeld3
namespace Go.Proofs.YtomfgjbicpeggaaGreat
open Go.RowKit

theorem visit_prefix {d : Int} {k : Nat} {x : Int} : ∀ (l far q : List Int), q[k]? = some x → (visit d l (far, q)).2[k]? = some x
  | [], _, _, h => h
  | y :: t, far, q, h => by
    rw [visit]
    split
    · exact visit_prefix t _ _ (by
        have : k < q.length := (List.getElem?_eq_some_iff.1 h).1
        rw [List.getElem?_append_left this]; exact h)
    · exact visit_prefix t _ _ h
theorem minus_setN {N k : Nat} (h : k < N) : (List.replicate k (-1 : Int) ++ List.replicate (N - k) 0).set k (-1) = List.replicate (k + 1) (-1) ++ List.replicate (N - (k + 1)) 0 := by
  rw [List.set_append_right _ _ (by simp), List.length_replicate, Nat.sub_self]
  obtain ⟨m, hm⟩ : ∃ m, N - k = m + 1 := ⟨N - k - 1, by omega⟩
  rw [hm, List.replicate_succ, List.set_cons_zero, show N - (k + 1) = m by omega, show k + 1 = k + 1 from rfl, List.replicate_succ', List.append_assoc]
  rfl
theorem leaps_in {W H a b x y : Int} {xs : List Int} {N : Nat} (hN : W * H = (N : Int)) (h : y ∈ leapsL W H xs a b x) : 0 ≤ y ∧ y < N := by
  have := (hasB_iff.1 (cellsL_mem.1 (List.mem_filter.1 h).1)).1
  rw [hN] at this; exact this

set_option maxRecDepth 100000 in
set_option maxHeartbeats 4000000 in
theorem faFrom_any (W H : Int) (A : Option Addr) (n c : Nat) (xs : List Int) (a b : Int) (s N : Nat) (w : World) (ha : Rd w A n xs) (hg : goodB W H xs = true) (hWH : W * H = (N : Int)) (hs : s < N) :
    Calls Tryz.prog 31 #[brd W H A n c, lpr a b, .int .i64 (s : Int)] w fun e w' => ∃ g, e = .returned (.slice (some ⟨g, 0, none⟩) N N) ∧ OwnI 3 w' w.heap.size (some ⟨g, 0, none⟩) N N (farL (leapsL W H xs a b) N s) ∧ Below w.heap.size w w' := by
  have HWH := Lib.hid hWH
  have HOK := Lib.hid (fun k => bfs_ok (adj := leapsL W H xs a b) (N := N) (start := (s : Int)) (by omega) (fun c _ x hx => leaps_in hWH hx) k)
  have hN64 : N ≤ 64 := by obtain ⟨h1, h2, _, _⟩ := goodB_iff.1 hg; have := cells_le h1 h2; omega
  have hs0 : (0 : Int) ≤ (s : Int) := by omega
  have hs1 : (s : Int) < (N : Int) := by omega
  have hN0 : (0 : Int) ≤ (N : Int) := by omega
  obtain ⟨hW, hH, _, _⟩ := goodB_iff.1 hg
  have HW := Lib.hid hW; have HN := Lib.hid (cells_le hW hH)
  have HG := Lib.hid hg
  obtain ⟨i0, hi, hz0, hz1, hz2⟩ := info_parts infoI
  have HI := Lib.hid hi; have HZ0 := Lib.hid hz0; have HZ1 := Lib.hid hz1; have HZ2 := Lib.hid hz2
  clear hW hH hg hi hz0 hz1 hz2
  obtain ⟨W2, hW2⟩ : ∃ W2, W2 = (w.alloc (.cells #[.int .i64 W, .int .i64 H, .slice A n c] 31)).alloc (.cells #[.int .i64 a, .int .i64 b] 33) := ⟨_, rfl⟩
  have a0 : W2.cell? ⟨w.heap.size, 0, none⟩ = some (.int .i64 W) := by rw [hW2]; go_simp
  have a1 : W2.cell? ⟨w.heap.size, 1, none⟩ = some (.int .i64 H) := by rw [hW2]; go_simp
  have a2 : W2.cell? ⟨w.heap.size, 2, none⟩ = some (.slice A n c) := by rw [hW2]; go_simp
  have l0 : W2.cell? ⟨w.heap.size + 1, 0, none⟩ = some (.int .i64 a) := by rw [hW2]; go_simp
  have l1 : W2.cell? ⟨w.heap.size + 1, 1, none⟩ = some (.int .i64 b) := by rw [hW2]; go_simp
  have hsz : w.heap.size + 2 ≤ W2.heap.size := by rw [hW2]; simp
  have B := Lib.hid (show Below w.heap.size w W2 by rw [hW2]; exact below_new (below_new (Below.refl _ _) _) _)
  have R := Lib.hid (ha.keep B.out)
  have ga : w.heap.size < W2.heap.size := by omega
  have gl : w.heap.size + 1 < W2.heap.size := by omega
  go_enter Tryz.func31, Tryz.ntmps31
  go_wp2_with (at_make; refine wpList_make_full _ rfl _ _ 22 rfl w.heap.size 3 i0 (.int .i64 0) 1 Tryz.underlying22 HI.out HZ0.out HZ1.out .i64 .i64 _ _ N rfl rfl rfl rfl (by rw [HZ2.out]; omega) (by unfold maxLen; omega) (by simp; omega) ?_; intro w1 hown1 hg1)
  rw [← hW2] at hown1 hg1
  have hW2s : W2.heap.size = w.heap.size + 2 := by rw [hW2]; simp
  have hO1 : OwnI 3 w1 w.heap.size (some ⟨w.heap.size + 1 + 1, 0, none⟩) N N (List.replicate N 0) := by
    unfold OwnI
    rw [show N * 1 = N from by omega, hW2s] at hown1
    have e : (madeCells (Value.cells (.int .i64 0)) N).toList = List.replicate N (.int .i64 0) := toList_madeCells_one (.int .i64 0) N
    rw [e] at hown1
    simpa using hown1
  obtain ⟨fb, hfb⟩ : ∃ fb, fb = w.heap.size + 1 + 1 := ⟨_, rfl⟩
  rw [← hfb] at hO1 ⊢
  have hb1 : Below W2.heap.size W2 w1 := below_of_grown hg1 (Nat.le_refl _) (by simp)
  have hfb1 : W2.heap.size ≤ fb := by omega
  have hfb2 : fb < w1.heap.size := by rcases hO1.some_ (k := 0) (by omega) with ⟨g9, h9, _, h8⟩; injection h9 with h9; injection h9 with h9; omega
  have FAR := Lib.hid hO1; have B1 := Lib.hid hb1
  have hlow : w.heap.size + 2 ≤ W2.heap.size := by omega
  have hs1z := hb1.size
  clear hW2 hfb hown1 hg1 hO1 hb1 hsz hW2s hWH
  go_loopw [21] (fun i wr => ∃ k : Nat, k ≤ N ∧ i = .int .i64 k ∧ OwnI 3 wr w.heap.size (some ⟨fb, 0, none⟩) N N (List.replicate k (-1) ++ List.replicate (N - k) 0) ∧ w1.grownBy wr (some fb)) (fun i _ => N - (intOf i).toNat)
  case atStart => exact ⟨0, by omega, rfl, by simpa using FAR.out, grown_refl _ _⟩
  case round =>
    obtain ⟨k, hk, rfl, hown, hgw⟩ := hrel
    by_cases hlt : k < N
    · have hx : (List.replicate k (-1 : Int) ++ List.replicate (N - k) 0)[k]? = some 0 := by
        rw [List.getElem?_append_right (by simp), List.length_replicate, Nat.sub_self, List.getElem?_replicate, if_pos (by omega)]
      have c0 := hown.cell hx
      have f0 := hown.frozen k
      have hi0 : (0 : Int) ≤ (k : Int) := by omega
      have hi1 : (k : Int) < (N : Int) := by omega
      obtain ⟨o1, g1⟩ := hown.stored k (-1)
      rw [minus_setN hlt] at o1
      have O1 := Lib.hid o1; have G1 := Lib.hid (grown_next hgw g1)
      clear o1 g1 hgw hown hx
      go_wp2
      go_roundw
      case rel => exact ⟨k + 1, by omega, by go_num, O1.out, G1.out⟩
      case measure => simp [intOf]; omega
    · obtain rfl : N = k := by omega
      have hown2 : OwnI 3 wr w.heap.size (some ⟨fb, 0, none⟩) N N (List.replicate N (-1)) := by simpa using hown
      have hx : (List.replicate N (-1 : Int))[s]? = some (-1) := by rw [List.getElem?_replicate, if_pos hs]
      have c0 := hown2.cell hx
      have f0 := hown2.frozen s
      obtain ⟨o1, g1⟩ := hown2.stored s 0
      have hg2 := grown_next hgw g1
      have B2 := Lib.hid (B1.out.trans (below_of_grown hg2 (by omega) (fun g h => by injection h with h; omega)))
      have hszw := hgw.size
      have O1 := Lib.hid o1
      clear o1 g1 hgw hown hown2 hx hg2
      go_wp2
      have hqrow : OwnI 3 ((wr.setCell ⟨fb, s, none⟩ (.int .i64 0)).alloc (.cells #[.int .i64 (s : Int)] 3)) w.heap.size (some ⟨wr.heap.size, 0, none⟩) 1 1 [(s : Int)] := by
        have h := World.ownsRow_lit (base := w.heap.size) (e := 3) (wr.setCell ⟨fb, s, none⟩ (.int .i64 0)) (#[.int .i64 (s : Int)] : Array Value) 1 (size := 1) (by simp; omega) (by decide) rfl
        rw [size_setCell'] at h
        exact h
      have Q4 := Lib.hid hqrow
      have F4 := Lib.hid (O1.out.alloc (.cells #[.int .i64 (s : Int)] 3))
      have B4 : Hid (Below W2.heap.size W2 ((wr.setCell ⟨fb, s, none⟩ (.int .i64 0)).alloc (.cells #[.int .i64 (s : Int)] 3))) := Lib.hid (B2.out.alloc (by simp; omega) _)
      generalize (wr.setCell ⟨fb, s, none⟩ (.int .i64 0)).alloc (.cells #[.int .i64 (s : Int)] 3) = W4 at *
      have hqf : wr.heap.size ≠ fb := by omega
      have hq2 : W2.heap.size ≤ wr.heap.size := by omega
      clear hqrow O1 B2 c0 f0 FAR B1
      generalize wr.heap.size = gq0 at *
      have Q5 := Lib.hid (QAt.start Q4.out)
      clear Q4
      go_loopg [9, 10] 64 (fun gm s9 s10 wr => ∃ (k g k0 n2 c2 : Nat), k ≤ n2 ∧ n2 = (bfsTo (leapsL W H xs a b) N s k).2.length ∧ 64 - k ≤ gm ∧ s10 = .int .i64 k ∧ s9 = .slice (some ⟨g, k0, none⟩) n2 c2 ∧ QAt 3 wr w.heap.size g k0 n2 c2 (bfsTo (leapsL W H xs a b) N s k).2 ∧ OwnI 3 wr w.heap.size (some ⟨fb, 0, none⟩) N N (bfsTo (leapsL W H xs a b) N s k).1 ∧ g ≠ fb ∧ W2.heap.size ≤ g ∧ Below W2.heap.size W2 wr)
      case atStart => exact ⟨0, _, 0, 1, 1, by omega, rfl, by omega, rfl, rfl, Q5.out, by simpa [bfsTo] using F4.out, hqf, hq2, B4.out⟩
      case round =>
        clear Q5 F4 B4 hqf hq2
        obtain ⟨k, g, k0, n2, c2, hk2, hn2, hgm, rfl, rfl, hq, hfar, hgf, hg2, hbw⟩ := hrel
        have hQ64 := nodup_len (HOK.out k).nodup (HOK.out k).range
        have hqle := hq.le
        have HN2 := Lib.hid hn2
        by_cases hkn : k < n2
        · obtain ⟨x, hx⟩ : ∃ x, (bfsTo (leapsL W H xs a b) N s k).2[k]? = some x := ⟨_, List.getElem?_eq_getElem (show k < (bfsTo (leapsL W H xs a b) N s k).2.length by omega)⟩
          have hxr := (HOK.out k).range _ (List.mem_of_getElem? hx)
          obtain ⟨xn, rfl⟩ : ∃ xn : Nat, x = (xn : Int) := ⟨x.toNat, by omega⟩
          have hxn : xn < N := by omega
          have hx0 : (0 : Int) ≤ (xn : Int) := by omega
          have hx1 : (xn : Int) < (N : Int) := by omega
          obtain ⟨d, hd1, hd2, hd3, hd4⟩ := (HOK.out k).at_ hxn
          have hd0 : 0 ≤ d := by have := (HOK.out k).seen _ (List.mem_of_getElem? hx); rw [Int.toNat_natCast, hd2] at this; exact this
          have hd5 : d ≤ 64 := by omega
          have DD := Lib.hid hd2
          have cq0 := hq.cell hx
          have gqlt := hq.lt.2
          have gqlt0 := hq.lt.2
          have hk64 : k < 64 := by omega
          have X0 := Lib.hid hx
          have FK := Lib.hid hfar; have QK := Lib.hid hq; have BK := Lib.hid hbw
          replace a0 := cell_keep a0 ga hbw; replace a1 := cell_keep a1 ga hbw; replace a2 := cell_keep a2 ga hbw; replace l0 := cell_keep l0 gl hbw; replace l1 := cell_keep l1 gl hbw
          have ga := lt_keep ga hbw; have gl := lt_keep gl hbw
          have RR := Lib.hid (R.out.keep hbw)
          have hk0 : (0 : Int) ≤ (k : Int) := by omega
          have hk1 : (k : Int) < (n2 : Int) := by omega
          have hgfb : fb < wr.heap.size := by rcases hfar.some_ (k := 0) (by omega) with ⟨g9, h9, _, h8⟩; injection h9 with h9; injection h9 with h9; omega
          clear hx hxr hd1 hd2 hfar hq hbw hn2 R
          go_wp2
          go_region_held3 (fun w' => w'.cell? ⟨w.heap.size, 0, none⟩ = some (.int .i64 W) ∧ w'.cell? ⟨w.heap.size, 1, none⟩ = some (.int .i64 H) ∧ w'.cell? ⟨w.heap.size, 2, none⟩ = some (.slice A n c) ∧ w'.cell? ⟨w.heap.size + 1, 0, none⟩ = some (.int .i64 a) ∧ w'.cell? ⟨w.heap.size + 1, 1, none⟩ = some (.int .i64 b) ∧ w'.cell? ⟨g, k0 + k, none⟩ = some (.int .i64 (xn : Int))) (first | exact ⟨a0, a1, a2, l0, l1, cq0⟩)
            (first
              | (go_at_call 46; refine (boLeaps_any W H A n c xs a b (xn : Int) _ ?_ ?_ ?_).mono ?_; (first | exact RR.out | exact RR.out.drew1); (exact HG.out); (omega); rintro e wv ⟨A3, n3, c3, rfl, hl3, hb⟩; (repeat (first | replace hb := below_undrew hb | replace hb := below_undrewN' hb)); replace a0 := cell_keep a0 ga hb; replace a1 := cell_keep a1 ga hb; replace a2 := cell_keep a2 ga hb; replace l0 := cell_keep l0 gl hb; replace l1 := cell_keep l1 gl hb; replace cq0 := cell_keep cq0 gqlt hb; replace ga := lt_keep ga hb; replace gl := lt_keep gl hb; replace gqlt := lt_keep gqlt hb; replace FK := Lib.hid (FK.out.keep hb); replace QK := Lib.hid (QK.out.keep hb); replace BK := Lib.hid (BK.out.trans (hb.mono BK.out.size)); have hbz := hb.size))
          have ROW := Lib.hid hl3.rd
          have ROWB : Hid (∀ y, A3 = some y → y.block ≠ g ∧ y.block ≠ fb ∧ y.block < wv.heap.size) := Lib.hid (fun y hy => by
            rcases hl3.form with ⟨h, _⟩ | ⟨g9, h, h2, h3, _⟩
            · rw [h] at hy; cases hy
            · have h2' : wr.heap.size ≤ g9 := h2
              rw [h] at hy; injection hy with hy; rw [← hy]; exact ⟨by show g9 ≠ g; omega, by show g9 ≠ fb; omega, h3⟩)
          have ROWL := Lib.hid hl3.len
          have n39 := hl3.rd.2.1
          clear hl3 hb RR a0 a1 a2 l0 l1 cq0
          go_wp2
          go_loopw [9, 47] (fun s9 s47 wx => ∃ (j g1 k1 nq cq : Nat), j ≤ n3 ∧ s47 = .int .i64 j ∧ s9 = .slice (some ⟨g1, k1, none⟩) nq cq ∧ nq = (visit d ((leapsL W H xs a b xn).take j) (bfsTo (leapsL W H xs a b) N s k)).2.length ∧ QAt 3 wx w.heap.size g1 k1 nq cq (visit d ((leapsL W H xs a b xn).take j) (bfsTo (leapsL W H xs a b) N s k)).2 ∧ OwnI 3 wx w.heap.size (some ⟨fb, 0, none⟩) N N (visit d ((leapsL W H xs a b xn).take j) (bfsTo (leapsL W H xs a b) N s k)).1 ∧ g1 ≠ fb ∧ W2.heap.size ≤ g1 ∧ Rd wx A3 n3 (leapsL W H xs a b xn) ∧ (∀ y, A3 = some y → y.block ≠ g1 ∧ y.block ≠ fb ∧ y.block < wx.heap.size) ∧ Below W2.heap.size W2 wx) (fun _ s47 _ => n3 - (intOf s47).toNat)
          case atStart => exact ⟨0, g, k0, n2, c2, Nat.zero_le _, rfl, rfl, by rw [List.take_zero]; exact HN2.out, by rw [List.take_zero]; exact QK.out, by rw [List.take_zero]; exact FK.out, hgf, hg2, ROW.out, ROWB.out, BK.out⟩
          case round =>
            obtain ⟨j, g1, k1, nq, cq, hj, rfl, rfl, hlen, hq, hfar, hg1f, hg12, hrow, hrowb, hbw⟩ := hrel
            have OKV : Hid (BfsOk N ((k : Int) + 1) (visit d ((leapsL W H xs a b xn).take j) (bfsTo (leapsL W H xs a b) N s k)).1 (visit d ((leapsL W H xs a b xn).take j) (bfsTo (leapsL W H xs a b) N s k)).2) := Lib.hid (visit_ok (d := d) ⟨by omega, by omega⟩ _ _ _ (fun z hz => leaps_in HWH.out (List.mem_of_mem_take hz)) ((HOK.out k).mono (by omega)))
            have hQ64 := nodup_len OKV.out.nodup OKV.out.range
            have DK : Hid ((visit d ((leapsL W H xs a b xn).take j) (bfsTo (leapsL W H xs a b) N s k)).1.getD xn 0 = d) := Lib.hid ((visit_keeps ((leapsL W H xs a b xn).take j) _ _ (by rw [DD.out]; exact hd0)).trans DD.out)
            have hxq := visit_prefix (d := d) ((leapsL W H xs a b xn).take j) (bfsTo (leapsL W H xs a b) N s k).1 _ X0.out
            obtain ⟨st, hst⟩ : ∃ st, visit d ((leapsL W H xs a b xn).take j) (bfsTo (leapsL W H xs a b) N s k) = st := ⟨_, rfl⟩
            rw [show visit d ((leapsL W H xs a b xn).take j) ((bfsTo (leapsL W H xs a b) N s k).1, (bfsTo (leapsL W H xs a b) N s k).2) = visit d ((leapsL W H xs a b xn).take j) (bfsTo (leapsL W H xs a b) N s k) from rfl] at hxq
            rw [hst] at hq hlen hfar hQ64 OKV DK hxq
            have HST := Lib.hid hst
            clear hst
            obtain ⟨F, Q⟩ := st
            simp only at hq hlen hfar hQ64 hxq
            by_cases hjl : j < n3
            · obtain ⟨b2, o2, y, rfl, hb2, hy, y0⟩ := hrow.at_ hjl
              have hyr := leaps_in HWH.out (List.mem_of_getElem? hy)
              obtain ⟨yn, rfl⟩ : ∃ yn : Nat, y = (yn : Int) := ⟨y.toNat, by omega⟩
              have hyn : yn < N := by omega
              have hy0 : (0 : Int) ≤ (yn : Int) := by omega
              have hy1 : (yn : Int) < (N : Int) := by omega
              obtain ⟨v, hv1, hv2, hv3, hv4⟩ := OKV.out.at_ hyn
              obtain ⟨dv, hdv1, hdv2, _, _⟩ := OKV.out.at_ hxn
              have hdd : dv = d := by have := DK.out; simp only at this hdv2; omega
              rw [hdd] at hdv1
              simp only at hv1 hdv1 hv2
              have cy := hfar.cell hv1
              have cd := hfar.cell hdv1
              have fy := hfar.frozen yn
              have cx := hq.cell hxq
              have HY := Lib.hid hy; have HV2 := Lib.hid hv2
              have HQ := Lib.hid hq; have HF := Lib.hid hfar; have HB := Lib.hid hbw; have HR := Lib.hid hrow; have HRB := Lib.hid hrowb
              have hbsz := hbw.size
              have hnq : nq ≤ 64 := by omega
              have hknq : (k : Int) < (nq : Int) := by have := (List.getElem?_eq_some_iff.1 hxq).1; omega
              have HLEN := Lib.hid hlen
              have hfblt : fb < wr.heap.size := by rcases HF.out.some_ (k := 0) (by omega) with ⟨g9, h9, _, h8⟩; injection h9 with h9; injection h9 with h9; omega
              clear hy hv1 hdv1 hv2 hq hfar hbw hlen hdd hdv2 hrow hrowb hxq
              by_cases hneg : v < 0
              · obtain ⟨o1, g2⟩ := HF.out.stored yn (d + 1)
                have OF := Lib.hid o1
                have HQ2 := Lib.hid (HQ.out.other g2 (by simp; omega))
                have HR2 := Lib.hid (HR.out.other g2 (fun a ha => by have := (HRB.out a ha).2.1; simpa using this))
                have HB2 := Lib.hid (HB.out.trans (below_of_grown g2 (by omega) (fun g h => by injection h with h; omega)))
                clear o1 g2
                go_wp2_with (at_builtin; refine wpList_appQ rfl (.tmp 67) (.tmp 69) 22 rfl i0 Tryz.underlying22 HI.out HZ0.out HZ1.out HZ2.out (yn : Int) rfl HQ2.out (by rw [size_setCell']; rfl) (by omega) (by rw [size_setCell']; omega) ?_; intro g3 k3 c4 w3 hq3 hg3 hor)
                have hgl := HQ2.out.lt
                rw [size_setCell'] at hor hgl
                have HQ3 := Lib.hid hq3
                have OF3 := Lib.hid (OF.out.other hg3 (fun a ha => by injection ha with ha; rw [← ha]; simp; omega))
                have HR3 := Lib.hid (HR2.out.other hg3 (fun a ha => by have := (HRB.out a ha).1; simpa using this))
                have HB3 := Lib.hid (HB2.out.trans (below_of_grown hg3 (by rw [size_setCell']; omega) (fun g h => by injection h with h; omega)))
                have hsz3 := hg3.size
                rw [size_setCell'] at hsz3
                have hg3f : g3 ≠ fb := by omega
                have hg32 : W2.heap.size ≤ g3 := by omega
                have HRB3 : Hid (∀ y, (some ⟨b2, o2, none⟩ : Option Addr) = some y → y.block ≠ g3 ∧ y.block ≠ fb ∧ y.block < w3.heap.size) := Lib.hid (fun y hy => by
                  have h := HRB.out y hy
                  exact ⟨by omega, h.2.1, by omega⟩)
                clear hq3 hg3 hor
                go_wp2
                go_roundw
                case rel =>
                  have e : visit d ((leapsL W H xs a b xn).take (j + 1)) (bfsTo (leapsL W H xs a b) N s k) = (F.set yn (d + 1), Q ++ [(yn : Int)]) := by
                    rw [List.take_add_one, HY.out, visit_append, HST.out]
                    show visit d [(yn : Int)] (F, Q) = _
                    rw [visit_one, Int.toNat_natCast, if_pos (by rw [HV2.out]; exact hneg)]
                  first
                    | exact ⟨j + 1, g3, k3, nq + 1, c4, by omega, by go_num, rfl, by rw [e, HLEN.out]; simp, by rw [e]; exact HQ3.out, by rw [e]; exact OF3.out, hg3f, hg32, HR3.out, HRB3.out, HB3.out⟩
                    | exact ⟨_, _, _, ⟨j + 1, by omega, rfl, g3, k3, nq + 1, c4, rfl, by rw [e, HLEN.out]; simp, by rw [e]; exact HQ3.out, by rw [e]; exact OF3.out, hg3f, hg32, HR3.out, HRB3.out, HB3.out⟩, rfl, rfl, by go_num⟩
                case measure => simp [intOf]; omega
              · have hne : decide (v < 0) = false := by simpa using hneg
                go_wp2
                go_roundw
                case rel =>
                  have e : visit d ((leapsL W H xs a b xn).take (j + 1)) (bfsTo (leapsL W H xs a b) N s k) = (F, Q) := by
                    rw [List.take_add_one, HY.out, visit_append, HST.out]
                    show visit d [(yn : Int)] (F, Q) = _
                    rw [visit_one, Int.toNat_natCast, if_neg (by rw [HV2.out]; omega)]
                  exact ⟨j + 1, g1, k1, nq, cq, by omega, by go_num, rfl, by rw [e]; exact HLEN.out, by rw [e]; exact HQ.out, by rw [e]; exact HF.out, hg1f, hg12, HR.out, HRB.out, HB.out⟩
                case measure => simp [intOf]; omega
            · have e2 : (leapsL W H xs a b xn).take j = leapsL W H xs a b xn := List.take_of_length_le (by have := ROWL.out; omega)
              have HQ := Lib.hid hq; have HF := Lib.hid hfar; have HB := Lib.hid hbw; have HLEN := Lib.hid hlen
              have E2 := Lib.hid e2
              have hkq : k + 1 ≤ nq := by have := (List.getElem?_eq_some_iff.1 hxq).1; omega
              clear hq hfar hbw hlen e2 hxq hrow hrowb
              go_wp2
              go_roundg (64 - (k + 1))
              case measure => omega
              case rel =>
                have e : bfsTo (leapsL W H xs a b) N s (k + 1) = (F, Q) := by
                  rw [bfs_next X0.out, Int.toNat_natCast, DD.out, ← HST.out, E2.out]
                exact ⟨k + 1, g1, k1, nq, cq, hkq, by rw [e]; exact HLEN.out, by omega, by go_num, rfl, by rw [e]; exact HQ.out, by rw [e]; exact HF.out, hg1f, hg12, HB.out⟩
        · have hL : (bfsTo (leapsL W H xs a b) N s k).2.length ≤ k := by have := HN2.out; omega
          have hfe := far_of_end (adj := leapsL W H xs a b) (N := N) (start := (s : Int)) (by omega) (fun c _ x hx => leaps_in HWH.out hx) hL
          rw [hfe] at hfar
          have HF := Lib.hid hfar; have HB := Lib.hid hbw
          clear hL hfe hfar hbw hq hn2
          go_wp2
          go_ret
          exact ⟨fb, rfl, HF.out, B.out.trans (HB.out.mono B.out.size)⟩

end Go.Proofs.YtomfgjbicpeggaaGreat

namespace Go.Proofs.YtomfgjbicpeggaaGreat
open Go.RowKit

def onB (W H : Int) (xs : List Int) (a b : Int) (ps : List Int) : Bool := okTwo W H xs a b && ps.all (hasB W H xs)

set_option maxRecDepth 100000 in
set_option maxHeartbeats 2000000 in
theorem isLeaperOn_any (W H : Int) (A : Option Addr) (n c : Nat) (xs : List Int) (a b : Int) (A2 : Option Addr) (m c2 : Nat) (ps : List Int) (w : World) (ha : Rd w A n xs) (hp : Rd w A2 m ps) :
    Calls Tryz.prog 19 #[brd W H A n c, lpr a b, .slice A2 m c2] w fun e w' => e = .returned (.bool (onB W H xs a b ps)) ∧ Below w.heap.size w w' := by
  by_cases hl : leaperB a b = true
  · by_cases hg : goodB W H xs = true
    · have HG := Lib.hid hg; have HL := Lib.hid hl
      go_enter Tryz.func19, Tryz.ntmps19
      go_wp2_with fail
      refine (isLeaper_any _ _ _).mono ?_
      rw [hl]
      rintro e wv ⟨rfl, hb⟩
      have hbx0 := below_box hb
      have a0 : wv.cell? ⟨w.heap.size, 0, none⟩ = some (.int .i64 W) := by simpa using newbox hbx0 0
      have a1 : wv.cell? ⟨w.heap.size, 1, none⟩ = some (.int .i64 H) := by simpa using newbox hbx0 1
      have a2 : wv.cell? ⟨w.heap.size, 2, none⟩ = some (.slice A n c) := by simpa using newbox hbx0 2
      have al : w.heap.size < wv.heap.size := by simpa using newbox_lt hbx0
      have l0 : wv.cell? ⟨w.heap.size + 1, 0, none⟩ = some (.int .i64 a) := by simpa using newbox hb 0
      have l1 : wv.cell? ⟨w.heap.size + 1, 1, none⟩ = some (.int .i64 b) := by simpa using newbox hb 1
      have ll : w.heap.size + 1 < wv.heap.size := by simpa using newbox_lt hb
      have B := Lib.hid (below_box hbx0)
      clear hb hbx0
      go_wp2_with fail
      refine (isBoard_any _ _ _ _ _ _ _ (ha.keep B.out)).mono ?_
      rw [hg]
      rintro e wv ⟨rfl, hb⟩
      replace a0 := cell_keep a0 al hb
      replace a1 := cell_keep a1 al hb
      replace a2 := cell_keep a2 al hb
      replace al := lt_keep al hb
      replace l0 := cell_keep l0 ll hb
      replace l1 := cell_keep l1 ll hb
      replace ll := lt_keep ll hb
      replace B := Lib.hid (below_next B.out hb)
      clear hb
      have R := Lib.hid (ha.keep B.out); have RP := Lib.hid (hp.keep B.out)
      have HPL := Lib.hid hp.1
      have m9 := hp.2.1
      have HA := Lib.hid (⟨a0, a1, a2⟩ : wv.cell? ⟨w.heap.size, 0, none⟩ = some (.int .i64 W) ∧ wv.cell? ⟨w.heap.size, 1, none⟩ = some (.int .i64 H) ∧ wv.cell? ⟨w.heap.size, 2, none⟩ = some (.slice A n c))
      clear a0 a1 a2 l0 l1 ll
      go_wp2
      go_loopw [19] (fun i wr => ∃ k : Nat, k ≤ m ∧ i = .int .i64 k ∧ (ps.take k).all (hasB W H xs) = true ∧ Below wv.heap.size wv wr) (fun i _ => m - (intOf i).toNat)
      case atStart => exact ⟨0, Nat.zero_le _, rfl, by simp, Below.refl _ _⟩
      case round =>
        obtain ⟨k, hk, rfl, hall, hbw⟩ := hrel
        have HALL := Lib.hid hall
        clear hall
        by_cases hlt : k < m
        · obtain ⟨bb, oo, x, rfl, hg1, hx, x0⟩ := RP.out.at_ hlt
          have HX := Lib.hid hx
          replace x0 := cell_keep x0 hg1 hbw
          have a0 := cell_keep HA.out.1 al hbw; have a1 := cell_keep HA.out.2.1 al hbw; have a2 := cell_keep HA.out.2.2 al hbw
          have HB := Lib.hid hbw
          have RR := Lib.hid (R.out.keep hbw)
          clear hx hbw
          cases hs : hasB W H xs x with
          | true =>
            have HS := Lib.hid hs
            clear hs
            go_wp2_with fail
            refine (isThere_any W H A n c x xs _ RR.out HG.out).mono ?_
            rw [HS.out]
            rintro e wz ⟨rfl, hb⟩
            replace HB := Lib.hid (below_next HB.out hb)
            clear hb
            go_wp2
            go_roundw
            case rel => exact ⟨k + 1, by omega, by go_num, by rw [List.take_add_one, HX.out, List.all_append, HALL.out]; simp [HS.out], HB.out⟩
            case measure => simp [intOf]; omega
          | false =>
            have HS := Lib.hid hs
            clear hs
            go_wp2_with fail
            refine (isThere_any W H A n c x xs _ RR.out HG.out).mono ?_
            rw [HS.out]
            rintro e wz ⟨rfl, hb⟩
            replace HB := Lib.hid (below_next HB.out hb)
            clear hb
            go_wp2
            go_ret
            exact ⟨ret_bool (by symm; rw [onB, Bool.and_eq_false_iff]; right; rw [List.all_eq_false]; exact ⟨x, List.mem_of_getElem? HX.out, by simp [HS.out]⟩), B.out.trans (HB.out.mono B.out.size)⟩
        · go_wp2
          go_ret
          exact ⟨ret_bool (by have h : ps.take k = ps := List.take_of_length_le (by have := HPL.out; omega); rw [onB, okTwo, HL.out, HG.out, ← h, HALL.out]; rfl), B.out.trans (hbw.mono B.out.size)⟩
    · have hg' : goodB W H xs = false := by simpa using hg
      go_enter Tryz.func19, Tryz.ntmps19
      go_wp2_with fail
      refine (isLeaper_any _ _ _).mono ?_
      rw [hl]
      rintro e wv ⟨rfl, hb⟩
      have hbx0 := below_box hb
      have a0 : wv.cell? ⟨w.heap.size, 0, none⟩ = some (.int .i64 W) := by simpa using newbox hbx0 0
      have a1 : wv.cell? ⟨w.heap.size, 1, none⟩ = some (.int .i64 H) := by simpa using newbox hbx0 1
      have a2 : wv.cell? ⟨w.heap.size, 2, none⟩ = some (.slice A n c) := by simpa using newbox hbx0 2
      have al : w.heap.size < wv.heap.size := by simpa using newbox_lt hbx0
      have l0 : wv.cell? ⟨w.heap.size + 1, 0, none⟩ = some (.int .i64 a) := by simpa using newbox hb 0
      have l1 : wv.cell? ⟨w.heap.size + 1, 1, none⟩ = some (.int .i64 b) := by simpa using newbox hb 1
      have ll : w.heap.size + 1 < wv.heap.size := by simpa using newbox_lt hb
      have B := Lib.hid (below_box hbx0)
      clear hb hbx0
      go_wp2_with fail
      refine (isBoard_any _ _ _ _ _ _ _ (ha.keep B.out)).mono ?_
      rw [hg']
      rintro e wv ⟨rfl, hb⟩
      replace a0 := cell_keep a0 al hb
      replace a1 := cell_keep a1 al hb
      replace a2 := cell_keep a2 al hb
      replace al := lt_keep al hb
      replace l0 := cell_keep l0 ll hb
      replace l1 := cell_keep l1 ll hb
      replace ll := lt_keep ll hb
      replace B := Lib.hid (below_next B.out hb)
      clear hb
      go_wp2
      go_ret
      exact ⟨ret_bool (by rw [onB, okTwo, hg']; simp), B.out⟩
  · have hl' : leaperB a b = false := by simpa using hl
    go_enter Tryz.func19, Tryz.ntmps19
    go_wp2_with fail
    refine (isLeaper_any _ _ _).mono ?_
    rw [hl']
    rintro e wv ⟨rfl, hb⟩
    have hbx0 := below_box hb
    have a0 : wv.cell? ⟨w.heap.size, 0, none⟩ = some (.int .i64 W) := by simpa using newbox hbx0 0
    have a1 : wv.cell? ⟨w.heap.size, 1, none⟩ = some (.int .i64 H) := by simpa using newbox hbx0 1
    have a2 : wv.cell? ⟨w.heap.size, 2, none⟩ = some (.slice A n c) := by simpa using newbox hbx0 2
    have al : w.heap.size < wv.heap.size := by simpa using newbox_lt hbx0
    have l0 : wv.cell? ⟨w.heap.size + 1, 0, none⟩ = some (.int .i64 a) := by simpa using newbox hb 0
    have l1 : wv.cell? ⟨w.heap.size + 1, 1, none⟩ = some (.int .i64 b) := by simpa using newbox hb 1
    have ll : w.heap.size + 1 < wv.heap.size := by simpa using newbox_lt hb
    have B := Lib.hid (below_box hbx0)
    clear hb hbx0
    go_wp2
    go_ret
    exact ⟨ret_bool (by rw [onB, okTwo, hl']; simp), B.out⟩

end Go.Proofs.YtomfgjbicpeggaaGreat

namespace Go.Proofs.YtomfgjbicpeggaaGreat
open Go.RowKit

theorem run_far (L : List Int) (_hl : L.length = 64) (q : Nat) (hq : q < 64) (v : Int) (hv : L[q]? = some v) (w : World) :
    (Instr.index 67 (.agg (L.map (Value.int .i64)).toArray) (.int .i64 (q : Int))).run Tryz.prog w = .ok (.int .i64 v) w := by
  have hu := Tryz.underlying67
  have hz := Tryz.sizeOf3
  have ha := Tryz.isAgg3
  simp [Instr.index, run_underlying hu, asIntOf, go_sem]
  rw [if_pos hq, hv]
  rfl

def distL (W H : Int) (xs : List Int) (a b p : Int) : List Int := farL (leapsL W H xs a b) (W * H).toNat p
def distV (W H : Int) (xs : List Int) (a b p q : Int) : Int := (distL W H xs a b p).getD q.toNat (-1)
/-- What holds where there are a leaper, a board and two cells. -/
structure OnFacts (W H : Int) (xs : List Int) (a b : Int) (N : Nat) : Prop where
  g : goodB W H xs = true
  l : leaperB a b = true
  wh : W * H = (N : Int)
  n : 1 ≤ N ∧ N ≤ 64
theorem on_facts {W H a b : Int} {xs : List Int} (h : okTwo W H xs a b = true) : OnFacts W H xs a b (W * H).toNat := by
  simp only [okTwo, Bool.and_eq_true] at h
  obtain ⟨h1, h2, _, _⟩ := goodB_iff.1 h.2
  have := cells_le h1 h2
  exact ⟨h.2, h.1, by omega, by omega⟩
theorem cells_in {W H a b : Int} {xs : List Int} {N : Nat} (h : OnFacts W H xs a b N) : ∀ x ∈ cellsL W H xs, 0 ≤ x ∧ x < 64 := fun x hx => by
  have := (hasB_iff.1 (cellsL_mem.1 hx)).1; have := h.wh; have := h.n; omega
theorem adj_in {W H a b : Int} {xs : List Int} : ∀ x, ∀ y ∈ leapsL W H xs a b x, y ∈ cellsL W H xs := fun _ _ hy => (List.mem_filter.1 hy).1
theorem dist_len {W H a b p : Int} {xs : List Int} {N : Nat} (h : OnFacts W H xs a b N) (hp : hasB W H xs p = true) : (distL W H xs a b p).length = N := by
  have hr := (hasB_iff.1 hp).1
  have e : (W * H).toNat = N := by have := h.wh; omega
  rw [distL, e]
  exact (bfs_ok (adj := leapsL W H xs a b) (N := N) (start := p) (by have := h.wh; omega) (fun c _ x hx => leaps_in h.wh hx) N).len
theorem far64 {W H a b p : Int} {xs : List Int} {N : Nat} (h : OnFacts W H xs a b N) (hp : hasB W H xs p = true) : farL (leapsL W H xs a b) 64 p = distL W H xs a b p ++ List.replicate (64 - N) (-1) := by
  have hr := (hasB_iff.1 hp).1
  have e : (W * H).toNat = N := by have := h.wh; omega
  rw [distL, e, ← far_pad (M := 64 - N) (by have := h.wh; omega) (fun c _ x hx => leaps_in h.wh hx), show N + (64 - N) = 64 by have := h.n; omega]
theorem dist_at {W H a b p : Int} {xs : List Int} {N : Nat} (h : OnFacts W H xs a b N) (hp : hasB W H xs p = true) {qn : Nat} (hq : qn < N) :
    (distL W H xs a b p)[qn]? = some (distV W H xs a b p (qn : Int)) ∧ -1 ≤ distV W H xs a b p (qn : Int) ∧ distV W H xs a b p (qn : Int) ≤ 64 := by
  have hr := (hasB_iff.1 hp).1
  have hlen := dist_len h hp
  have hx : (distL W H xs a b p)[qn]? = some (distL W H xs a b p)[qn] := List.getElem?_eq_getElem (by omega)
  have hv : distV W H xs a b p (qn : Int) = (distL W H xs a b p)[qn] := by rw [distV, Int.toNat_natCast, List.getD_eq_getElem?_getD, hx]; rfl
  rw [hv]
  refine ⟨hx, ?_⟩
  have e : (W * H).toNat = N := by have := h.wh; omega
  have hb := (bfs_ok (adj := leapsL W H xs a b) (N := N) (start := p) (by have := h.wh; omega) (fun c _ x hx => leaps_in h.wh hx) N).lo qn (distL W H xs a b p)[qn] (by rw [← hx, distL, e]; rfl)
  have := h.n; omega

def okDist (W H : Int) (xs : List Int) (a b p q : Int) : Bool := onB W H xs a b [p, q] && decide (0 ≤ distV W H xs a b p q)
def distBV (W H : Int) (xs : List Int) (a b p q : Int) : Int := if okDist W H xs a b p q then distV W H xs a b p q else 0
theorem onB_two {W H a b p q : Int} {xs : List Int} (h : onB W H xs a b [p, q] = true) : okTwo W H xs a b = true ∧ hasB W H xs p = true ∧ hasB W H xs q = true := by
  simp only [onB, Bool.and_eq_true, List.all_cons, List.all_nil, and_true] at h
  exact ⟨h.1, h.2.1, h.2.2⟩

end Go.Proofs.YtomfgjbicpeggaaGreat

namespace Go.Proofs.YtomfgjbicpeggaaGreat
open Go.RowKit

theorem onB_same {W H a b p : Int} {xs : List Int} : onB W H xs a b [p, p] = onB W H xs a b [p] := by simp [onB]
theorem onB_one {W H a b p : Int} {xs : List Int} (h : onB W H xs a b [p] = true) : okTwo W H xs a b = true ∧ hasB W H xs p = true := by
  simp only [onB, Bool.and_eq_true, List.all_cons, List.all_nil, and_true] at h
  exact h
def distFromV (W H : Int) (xs : List Int) (a b p : Int) : List Int := if onB W H xs a b [p] = true then distL W H xs a b p else []

end Go.Proofs.YtomfgjbicpeggaaGreat

namespace Go.Proofs.YtomfgjbicpeggaaGreat
open Go.RowKit

theorem infoDs : (Tryz.prog.info? 67).map (·.size) = some 64 := by kernel_rfl
theorem wpList_store64 {ops : Array Oper} {rest : List Oper} {o : Oper} {a : Act} {w0 : World} {Q : Exit → Act → World → Prop} (L : List Int) (hL : L.length = 64) (hg : o.guard = none) (x y : Operand)
    (ho : o.op = .store 67 x y) (hd : o.dst = none) (hx : a.eval x = .pointer (some ⟨w0.heap.size, 0, none⟩)) (hy : a.eval y = .agg (L.map (Value.int .i64)).toArray)
    (E : TypeId) (old : Array Value) (hold : old.size = 64) (h : wpList Tryz.prog ops Q rest a (w0.alloc (.cells (L.map (Value.int .i64)).toArray E))) :
    wpList Tryz.prog ops Q (o :: rest) a (w0.alloc (.cells old E)) := by
  refine wpList_store_rowTo hg _ x y ho hd w0.heap.size (L.map (Value.int .i64)).toArray hx hy E old (show (w0.heap.push _)[w0.heap.size]? = _ by rw [Array.getElem?_push_size]) (by rw [infoDs]; simp [hL]) (by rw [hold]; simp [hL]) ?_ ?_
  · refine Array.all_eq_true_iff_forall_mem.2 (fun v hv => ?_)
    simp only [List.mem_toArray, List.mem_map] at hv
    obtain ⟨i, _, rfl⟩ := hv
    rfl
  · rw [World.setRow_alloc_new]; exact h
theorem run_cut (g N : Nat) (hN : N ≤ 64) (w : World) :
    (Instr.sliceAt 67 (.pointer (some ⟨g, 0, none⟩)) none (some (.int .i64 (N : Int))) none).run Tryz.prog w = .ok (.slice (some ⟨g, 0, none⟩) N 64) w := by
  have hl : Tryz.prog.arrayLen 67 = 64 := by kernel_rfl
  have he : Tryz.prog.elem 67 = 3 := by kernel_rfl
  have hu : Tryz.prog.underlying 67 = some (.array (Tryz.prog.arrayLen 67) (Tryz.prog.elem 67)) := by rw [hl, he]; exact Tryz.underlying67
  rw [run_sliceAt_array_h w _ _ hu .i64 (N : Int) (by omega) (by rw [hl]; omega), he, Tryz.sizeOf3, hl]
  simp [slicedAt]
  rfl
theorem cell_laid (w : World) (L : List Int) (E : TypeId) : ∀ j, j < L.length → (w.alloc (.cells (L.map (Value.int .i64)).toArray E)).cell? ⟨w.heap.size, 0 + j, none⟩ = some (.int .i64 (L.getD j 0)) := by
  intro j hj
  have h := newbox (w := w) (w' := w.alloc (.cells (L.map (Value.int .i64)).toArray E)) (cs := (L.map (Value.int .i64)).toArray) (t := E) (Below.refl _ _) j
  rw [Nat.zero_add, h, ← Array.getElem?_toList, List.toList_toArray, List.getElem?_map, List.getElem?_eq_getElem hj, List.getD_eq_getElem?_getD, List.getElem?_eq_getElem hj]
  rfl
theorem own_slice {E : TypeId} {w : World} {lo n : Nat} {v : Value} {xs : List Int} (h : w.ownsRow lo E 1 v n (xs.map (Value.int .i64))) : ∃ A c, v = .slice A n c ∧ OwnI E w lo A n c xs := by
  have h0 := h
  rcases h.2 with ⟨hv, hn⟩ | ⟨g, cap, cur, hv, _⟩
  · subst hn; subst hv; exact ⟨_, _, rfl, h0⟩
  · subst hv; exact ⟨_, _, rfl, h0⟩

end Go.Proofs.YtomfgjbicpeggaaGreat

namespace Go.Proofs.YtomfgjbicpeggaaGreat
open Go.RowKit

theorem far_len64 {W H a b p : Int} {xs : List Int} {N : Nat} (h : OnFacts W H xs a b N) (hp : hasB W H xs p = true) : (farL (leapsL W H xs a b) 64 p).length = 64 := by
  rw [far64 h hp, List.length_append, dist_len h hp, List.length_replicate]; have := h.n; omega

end Go.Proofs.YtomfgjbicpeggaaGreat

namespace Go.Proofs.YtomfgjbicpeggaaGreat

theorem visit_from {S : Int → Prop} {d : Int} : ∀ (l far q : List Int), (∀ x ∈ l, S x) → (∀ x ∈ q, S x) → ∀ x ∈ (visit d l (far, q)).2, S x
  | [], _, _, _, h => h
  | y :: t, far, q, hl, h => by
    rw [visit]
    split
    · exact visit_from t _ _ (fun z hz => hl z (List.mem_cons_of_mem _ hz)) (fun z hz => by
        rcases List.mem_append.1 hz with hz | hz
        · exact h z hz
        · simp at hz; subst hz; exact hl _ List.mem_cons_self)
    · exact visit_from t _ _ (fun z hz => hl z (List.mem_cons_of_mem _ hz)) h
theorem bfs_from {S : Int → Prop} {adj : Int → List Int} {N : Nat} {start : Int} (hs : S start) (ha : ∀ x, S x → ∀ y ∈ adj x, S y) : ∀ k : Nat, ∀ x ∈ (bfsTo adj N start k).2, S x
  | 0, x, hx => by simp [bfsTo] at hx; subst hx; exact hs
  | k + 1, x, hx => by
    rw [bfsTo, bfsStep] at hx
    split at hx
    · exact bfs_from hs ha k x hx
    · rename_i c hc
      exact visit_from _ _ _ (ha _ (bfs_from hs ha k _ (List.mem_of_getElem? hc))) (bfs_from hs ha k) x hx
/-- Each place that has a distance has been reached. -/
def Known (far q : List Int) : Prop := ∀ i : Nat, 0 ≤ far.getD i (-1) → (i : Int) ∈ q
theorem visit_known {d : Int} : ∀ (l far q : List Int), (∀ x ∈ l, 0 ≤ x) → Known far q → Known (visit d l (far, q)).1 (visit d l (far, q)).2
  | [], _, _, _, h => h
  | x :: t, far, q, hl, h => by
    have hx := hl x List.mem_cons_self
    rw [visit]
    split
    · refine visit_known t _ _ (fun z hz => hl z (List.mem_cons_of_mem _ hz)) (fun i hi => ?_)
      by_cases e : x.toNat = i
      · rw [show (i : Int) = x by omega]; simp
      · rw [List.getD_eq_getElem?_getD, List.getElem?_set_ne e, ← List.getD_eq_getElem?_getD] at hi
        exact List.mem_append_left _ (h i hi)
    · exact visit_known t _ _ (fun z hz => hl z (List.mem_cons_of_mem _ hz)) h
theorem visit_pre {d : Int} {k : Nat} {x : Int} : ∀ (l far q : List Int), q[k]? = some x → (visit d l (far, q)).2[k]? = some x
  | [], _, _, h => h
  | y :: t, far, q, h => by
    rw [visit]
    split
    · exact visit_pre t _ _ (by
        have : k < q.length := (List.getElem?_eq_some_iff.1 h).1
        rw [List.getElem?_append_left this]; exact h)
    · exact visit_pre t _ _ h
theorem visit_covers {d : Int} (hd : 0 ≤ d + 1) : ∀ (l far q : List Int), (∀ x ∈ l, 0 ≤ x ∧ x < (far.length : Int)) → ∀ y ∈ l, 0 ≤ (visit d l (far, q)).1.getD y.toNat 0
  | [], _, _, _, y, hy => by simp at hy
  | x :: t, far, q, hl, y, hy => by
    have hx := hl x List.mem_cons_self
    rw [visit]
    rcases List.mem_cons.1 hy with rfl | hy
    · split
      · rw [visit_keeps t _ _ (by rw [getD_set_same (by omega)]; exact hd), getD_set_same (by omega)]; exact hd
      · rename_i hn
        rw [visit_keeps t _ _ (by omega)]; omega
    · split
      · exact visit_covers hd t _ _ (fun z hz => by simpa using hl z (List.mem_cons_of_mem _ hz)) y hy
      · exact visit_covers hd t _ _ (fun z hz => hl z (List.mem_cons_of_mem _ hz)) y hy
section
variable {adj : Int → List Int} {N : Nat} {start : Int}
theorem bfs_known (hs : 0 ≤ start ∧ start < N) (ha : ∀ c : Int, 0 ≤ c ∧ c < N → ∀ x ∈ adj c, 0 ≤ x ∧ x < N) : ∀ k : Nat, Known (bfsTo adj N start k).1 (bfsTo adj N start k).2
  | 0 => fun i hi => by
    simp only [bfsTo] at hi ⊢
    by_cases e : start.toNat = i
    · rw [show (i : Int) = start by omega]; simp
    · rw [List.getD_eq_getElem?_getD, List.getElem?_set_ne e, List.getElem?_replicate] at hi
      split at hi <;> simp at hi
  | k + 1 => by
    rw [bfsTo, bfsStep]
    split
    · exact bfs_known hs ha k
    · rename_i c hc
      exact visit_known _ _ _ (fun x hx => (ha c ((bfs_ok hs ha k).range c (List.mem_of_getElem? hc)) x hx).1) (bfs_known hs ha k)
/-- What lies before the queue's head leads nowhere new. -/
theorem bfs_done (hs : 0 ≤ start ∧ start < N) (ha : ∀ c : Int, 0 ≤ c ∧ c < N → ∀ x ∈ adj c, 0 ≤ x ∧ x < N) : ∀ (k j : Nat), j < k → ∀ x, (bfsTo adj N start k).2[j]? = some x → ∀ y ∈ adj x, 0 ≤ (bfsTo adj N start k).1.getD y.toNat 0
  | 0, j, hj, _, _, _, _ => absurd hj (by omega)
  | k + 1, j, hj, x, hx, y, hy => by
    cases hc : (bfsTo adj N start k).2[k]? with
    | none =>
      have e : bfsTo adj N start (k + 1) = bfsTo adj N start k := by rw [bfsTo, bfsStep, hc]
      rw [e] at hx ⊢
      have hj' : j < k := by
        rcases Nat.lt_or_ge j k with h | h
        · exact h
        · obtain rfl : j = k := by omega
          rw [hc] at hx; cases hx
      exact bfs_done hs ha k j hj' x hx y hy
    | some c =>
      have e := bfs_next hc
      have hok := bfs_ok hs ha k
      have hcr := hok.range c (List.mem_of_getElem? hc)
      have hc0 := hok.seen c (List.mem_of_getElem? hc)
      have hkl := (List.getElem?_eq_some_iff.1 hc).1
      rw [e] at hx ⊢
      by_cases hjk : j = k
      · subst hjk
        have hp : (visit ((bfsTo adj N start j).1.getD c.toNat 0) (adj c) (bfsTo adj N start j)).2[j]? = some c := visit_pre (adj c) _ _ hc
        rw [hp] at hx
        injection hx with hx
        subst hx
        exact visit_covers (by omega) (adj c) _ _ (by rw [hok.len]; exact ha c hcr) y hy
      · have hz : (bfsTo adj N start k).2[j]? = some (bfsTo adj N start k).2[j] := List.getElem?_eq_getElem (by omega)
        have hp : (visit ((bfsTo adj N start k).1.getD c.toNat 0) (adj c) (bfsTo adj N start k)).2[j]? = some (bfsTo adj N start k).2[j] := visit_pre (adj c) _ _ hz
        rw [hp] at hx
        injection hx with hx
        have h0 := bfs_done hs ha k j (by omega) x (by rw [hz, hx]) y hy
        have h2 : (visit ((bfsTo adj N start k).1.getD c.toNat 0) (adj c) (bfsTo adj N start k)).1.getD y.toNat 0 = (bfsTo adj N start k).1.getD y.toNat 0 := visit_keeps (adj c) _ _ h0
        rw [h2]; exact h0
theorem bfs_start (hs : 0 ≤ start ∧ start < N) : ∀ k : Nat, (bfsTo adj N start k).1.getD start.toNat 0 = 0
  | 0 => by rw [bfsTo, getD_set_same (by simp; omega)]
  | k + 1 => by
    rw [bfsTo, bfsStep]
    split
    · exact bfs_start hs k
    · rename_i c hc
      have h2 : (visit ((bfsTo adj N start k).1.getD c.toNat 0) (adj c) (bfsTo adj N start k)).1.getD start.toNat 0 = (bfsTo adj N start k).1.getD start.toNat 0 := visit_keeps (adj c) _ _ (by rw [bfs_start hs k]; omega)
      rw [h2]; exact bfs_start hs k
theorem getD_lt {L : List Int} {i : Nat} (h : i < L.length) (a b : Int) : L.getD i a = L.getD i b := by
  rw [List.getD_eq_getElem?_getD, List.getD_eq_getElem?_getD, List.getElem?_eq_getElem h]; rfl
theorem far_len (hs : 0 ≤ start ∧ start < N) (ha : ∀ c : Int, 0 ≤ c ∧ c < N → ∀ x ∈ adj c, 0 ≤ x ∧ x < N) : (farL adj N start).length = N := (bfs_ok hs ha N).len
/-- Whoever is reached reaches on. -/
theorem far_step (hs : 0 ≤ start ∧ start < N) (ha : ∀ c : Int, 0 ≤ c ∧ c < N → ∀ x ∈ adj c, 0 ≤ x ∧ x < N) {x y : Int} (hx : 0 ≤ x) (hf : 0 ≤ (farL adj N start).getD x.toNat (-1)) (hy : y ∈ adj x) : 0 ≤ (farL adj N start).getD y.toNat (-1) := by
  have hq := bfs_known hs ha N x.toNat hf
  rw [Int.toNat_of_nonneg hx] at hq
  obtain ⟨j, hj, hjx⟩ := List.getElem_of_mem hq
  have hql := bfs_q_len hs ha N
  have hxr := (bfs_ok hs ha N).range x hq
  have h := bfs_done hs ha N j (by omega) x (by rw [List.getElem?_eq_getElem hj, hjx]) y hy
  have hyr := ha x hxr y hy
  rw [farL, getD_lt (by rw [(bfs_ok hs ha N).len]; omega) (-1) 0]
  exact h
theorem far_from {S : Int → Prop} (hs : 0 ≤ start ∧ start < N) (ha : ∀ c : Int, 0 ≤ c ∧ c < N → ∀ x ∈ adj c, 0 ≤ x ∧ x < N) (h0 : S start) (hcl : ∀ x, S x → ∀ y ∈ adj x, S y) {i : Nat} (hf : 0 ≤ (farL adj N start).getD i (-1)) : S (i : Int) :=
  bfs_from h0 hcl N _ (bfs_known hs ha N i hf)
theorem far_start (hs : 0 ≤ start ∧ start < N) (ha : ∀ c : Int, 0 ≤ c ∧ c < N → ∀ x ∈ adj c, 0 ≤ x ∧ x < N) : (farL adj N start).getD start.toNat (-1) = 0 := by
  rw [getD_lt (by rw [far_len hs ha]; omega) (-1) 0]; exact bfs_start hs N
end
theorem far_trans {adj : Int → List Int} {N : Nat} {p q : Int} (hp : 0 ≤ p ∧ p < N) (hq : 0 ≤ q ∧ q < N) (ha : ∀ c : Int, 0 ≤ c ∧ c < N → ∀ x ∈ adj c, 0 ≤ x ∧ x < N) (h1 : 0 ≤ (farL adj N p).getD q.toNat (-1)) {r : Nat} (h2 : 0 ≤ (farL adj N q).getD r (-1)) : 0 ≤ (farL adj N p).getD r (-1) := by
  have h := far_from (S := fun y => (0 ≤ y ∧ y < N) ∧ 0 ≤ (farL adj N p).getD y.toNat (-1)) hq ha ⟨hq, h1⟩ (fun x hx y hy => ⟨ha x hx.1 y hy, far_step hp ha hx.1.1 hx.2 hy⟩) h2
  have := h.2
  rwa [Int.toNat_natCast] at this
theorem far_symm {adj : Int → List Int} {N : Nat} {C : Int → Prop} (hC : ∀ x, C x → 0 ≤ x ∧ x < (N : Int)) (hsym : ∀ x y, C x → y ∈ adj x → C y ∧ x ∈ adj y) {p : Int} (hp : C p) (ha : ∀ c : Int, 0 ≤ c ∧ c < N → ∀ x ∈ adj c, 0 ≤ x ∧ x < N) {i : Nat} (hf : 0 ≤ (farL adj N p).getD i (-1)) : C (i : Int) ∧ 0 ≤ (farL adj N (i : Int)).getD p.toNat (-1) := by
  refine far_from (S := fun y => C y ∧ 0 ≤ (farL adj N y).getD p.toNat (-1)) (hC p hp) ha ⟨hp, by rw [far_start (hC p hp) ha]; omega⟩ (fun x hx y hy => ?_) hf
  obtain ⟨hCy, hxy⟩ := hsym x y hx.1 hy
  refine ⟨hCy, ?_⟩
  have h1 : 0 ≤ (farL adj N y).getD x.toNat (-1) := far_step (hC y hCy) ha (hC y hCy).1 (by rw [far_start (hC y hCy) ha]; omega) hxy
  exact far_trans (hC y hCy) (hC x hx.1) ha h1 hx.2

/-! ### Cells picked by a test -/
def selTo (f : Nat → Bool) : Nat → List Int
  | 0 => []
  | k + 1 => if f k then selTo f k ++ [(k : Int)] else selTo f k
theorem selTo_yes {f : Nat → Bool} {k : Nat} (h : f k = true) : selTo f (k + 1) = selTo f k ++ [(k : Int)] := by rw [selTo, if_pos h]
theorem selTo_no {f : Nat → Bool} {k : Nat} (h : f k = false) : selTo f (k + 1) = selTo f k := by rw [selTo, if_neg (by simp [h])]
theorem selTo_len (f : Nat → Bool) : ∀ k, (selTo f k).length ≤ k
  | 0 => Nat.le_refl _
  | k + 1 => by
    have := selTo_len f k
    rw [selTo]; split
    · rw [List.length_append]; simp; omega
    · omega
theorem selTo_congr {f g : Nat → Bool} : ∀ k, (∀ i, i < k → f i = g i) → selTo f k = selTo g k
  | 0, _ => rfl
  | k + 1, h => by rw [selTo, selTo, h k (by omega), selTo_congr k (fun i hi => h i (by omega))]
theorem selTo_stop {f : Nat → Bool} {N : Nat} (h : ∀ i, N ≤ i → f i = false) {k : Nat} (hk : N ≤ k) : selTo f k = selTo f N := by
  induction k with
  | zero => rw [show N = 0 by omega]
  | succ k ih =>
    by_cases e : N = k + 1
    · rw [e]
    · rw [selTo_no (h k (by omega)), ih (by omega)]
theorem selTo_none {f : Nat → Bool} (k : Nat) (h : ∀ i, i < k → f i = false) : selTo f k = [] := by
  rw [selTo_congr (g := fun _ => false) k h]
  induction k with
  | zero => rfl
  | succ k ih => rw [selTo_no rfl, ih (fun i hi => h i (by omega))]
theorem selTo_mem {f : Nat → Bool} {x : Int} : ∀ {k : Nat}, x ∈ selTo f k ↔ ∃ i, i < k ∧ f i = true ∧ x = (i : Int)
  | 0 => by simp [selTo]
  | k + 1 => by
    rw [selTo]
    split
    · rename_i hf
      rw [List.mem_append, selTo_mem]
      constructor
      · rintro (⟨i, hi, h⟩ | h)
        · exact ⟨i, by omega, h⟩
        · exact ⟨k, by omega, hf, by simpa using h⟩
      · rintro ⟨i, hi, h1, h2⟩
        by_cases e : i = k
        · subst e; right; simp [h2]
        · exact .inl ⟨i, by omega, h1, h2⟩
    · rename_i hf
      rw [selTo_mem]
      constructor
      · rintro ⟨i, hi, h⟩; exact ⟨i, by omega, h⟩
      · rintro ⟨i, hi, h1, h2⟩
        by_cases e : i = k
        · subst e; exact absurd h1 hf
        · exact ⟨i, by omega, h1, h2⟩

end Go.Proofs.YtomfgjbicpeggaaGreat

namespace Go.Proofs.YtomfgjbicpeggaaGreat

/-! ### Counts -/
def padTo (l : List Int) (n : Nat) : List Int := l ++ List.replicate (n - l.length) 0
def bump (l : List Int) (i : Nat) : List Int := l.set i (l.getD i 0 + 1)
def cntStep (out : List Int) (x : Int) : List Int := if x < 0 then out else bump (padTo out (x.toNat + 1)) x.toNat
def cntL (L : List Int) : List Int := L.foldl cntStep []
def bumpStep (c : List Int) (x : Int) : List Int := if x < 0 then c else bump c x.toNat
theorem padTo_len (l : List Int) (n : Nat) : (padTo l n).length = max l.length n := by rw [padTo, List.length_append, List.length_replicate]; omega
theorem padTo_self {l : List Int} {n : Nat} (h : n ≤ l.length) : padTo l n = l := by rw [padTo, show n - l.length = 0 by omega]; simp
theorem padTo_nil (n : Nat) : padTo [] n = List.replicate n 0 := by simp [padTo]
theorem padTo_succ {l : List Int} {n : Nat} (h : l.length ≤ n) : padTo l (n + 1) = padTo l n ++ [0] := by
  rw [padTo, padTo, show n + 1 - l.length = (n - l.length) + 1 by omega, List.replicate_succ', List.append_assoc]
theorem padTo_padTo {l : List Int} {m n : Nat} (h : m ≤ n) : padTo (padTo l m) n = padTo l n := by
  rcases Nat.le_total m l.length with h1 | h1
  · rw [padTo_self h1]
  · have e : (padTo l m).length = m := by rw [padTo_len]; omega
    rw [padTo, e, padTo, padTo, List.append_assoc, List.replicate_append_replicate, show m - l.length + (n - m) = n - l.length by omega]
theorem bump_len (l : List Int) (i : Nat) : (bump l i).length = l.length := by rw [bump, List.length_set]
theorem bump_pad {l : List Int} {i n : Nat} (h : i < l.length) : bump (padTo l n) i = padTo (bump l i) n := by
  rw [bump, padTo, padTo, bump_len, List.getD_eq_getElem?_getD, List.getElem?_append_left h, ← List.getD_eq_getElem?_getD, List.set_append_left _ _ h, bump]
theorem cnt_pad {M : Nat} : ∀ (L out : List Int), (∀ x ∈ L, x < M) → out.length ≤ M → L.foldl bumpStep (padTo out M) = padTo (L.foldl cntStep out) M ∧ (L.foldl cntStep out).length ≤ M
  | [], _, _, h => ⟨rfl, h⟩
  | x :: t, out, hL, h => by
    rw [List.foldl_cons, List.foldl_cons]
    have ht := fun y hy => hL y (List.mem_cons_of_mem x hy)
    have hx := hL x List.mem_cons_self
    by_cases hn : x < 0
    · rw [bumpStep, cntStep, if_pos hn, if_pos hn]; exact cnt_pad t out ht h
    · rw [bumpStep, cntStep, if_neg hn, if_neg hn]
      have e : bump (padTo out M) x.toNat = padTo (bump (padTo out (x.toNat + 1)) x.toNat) M := by
        rw [← bump_pad (by rw [padTo_len]; omega), padTo_padTo (by omega)]
      rw [e]
      exact cnt_pad t _ ht (by rw [bump_len, padTo_len]; omega)
theorem cnt_len : ∀ (L out : List Int) (m : Nat), out.length ≤ m → (∃ x ∈ L, x.toNat + 1 = m ∧ 0 ≤ x) → (∀ x ∈ L, x < m) → (L.foldl cntStep out).length = m
  | [], _, _, _, h, _ => by obtain ⟨x, hx, _⟩ := h; simp at hx
  | x :: t, out, m, ho, h, hL => by
    have ht := fun y hy => hL y (List.mem_cons_of_mem x hy)
    have hx := hL x List.mem_cons_self
    rw [List.foldl_cons]
    obtain ⟨y, hy, e, h0⟩ := h
    have ho2 : (cntStep out x).length ≤ m := by
      rw [cntStep]; split
      · exact ho
      · rw [bump_len, padTo_len]; omega
    by_cases hm : ∃ z ∈ t, z.toNat + 1 = m ∧ 0 ≤ z
    · exact cnt_len t _ m ho2 hm ht
    · have exy : y = x := by
        rcases List.mem_cons.1 hy with h1 | h1
        · exact h1
        · exact absurd ⟨y, h1, e, h0⟩ hm
      subst exy
      have e2 : (cntStep out y).length = m := by rw [cntStep, if_neg (by omega), bump_len, padTo_len]; omega
      have h3 := (cnt_pad (M := m) t (cntStep out y) ht (by omega)).1
      rw [padTo_self (by omega)] at h3
      have h4 : ∀ (l c : List Int), (l.foldl bumpStep c).length = c.length := by
        intro l
        induction l with
        | nil => intro c; rfl
        | cons z l ih => intro c; rw [List.foldl_cons, ih, bumpStep]; split; rfl; rw [bump_len]
      have h5 := (cnt_pad (M := m) t (cntStep out y) ht (by omega)).2
      have h6 : ∀ (l c : List Int), c.length ≤ (l.foldl cntStep c).length := by
        intro l
        induction l with
        | nil => intro c; exact Nat.le_refl _
        | cons z l ih =>
          intro c
          rw [List.foldl_cons]
          refine Nat.le_trans ?_ (ih _)
          rw [cntStep]; split
          · exact Nat.le_refl _
          · rw [bump_len, padTo_len]; omega
      have := h6 t (cntStep out y)
      omega
theorem bumpStep_len (L c : List Int) : (L.foldl bumpStep c).length = c.length := by
  induction L generalizing c with
  | nil => rfl
  | cons z l ih => rw [List.foldl_cons, ih, bumpStep]; split; rfl; rw [bump_len]
theorem bump_minus (m : Nat) (c : List Int) : (List.replicate m (-1)).foldl bumpStep c = c := by
  induction m with
  | zero => rfl
  | succ m ih => rw [List.replicate_succ, List.foldl_cons, bumpStep, if_pos (by omega), ih]
theorem take_foldl {α β : Type} (f : β → α → β) {L : List α} {k : Nat} {x : α} (h : L[k]? = some x) (z : β) : (L.take (k + 1)).foldl f z = f ((L.take k).foldl f z) x := by
  rw [List.take_add_one, h, List.foldl_append]; rfl
/-- Both counts are the same where the greatest distance is met. -/
theorem cnt_both {L : List Int} {g : Nat} (hm : (g : Int) ∈ L) (hle : ∀ x ∈ L, x ≤ (g : Int)) (m : Nat) : (L ++ List.replicate m (-1)).foldl bumpStep (List.replicate (g + 1) 0) = cntL L ∧ (cntL L).length = g + 1 := by
  have hlt : ∀ x ∈ L, x < ((g + 1 : Nat) : Int) := fun x hx => by have := hle x hx; omega
  have h1 := cnt_pad (M := g + 1) L [] hlt (by simp)
  have h2 := cnt_len L [] (g + 1) (by simp) ⟨_, hm, by omega, by omega⟩ hlt
  rw [List.foldl_append, bump_minus, ← padTo_nil, h1.1, padTo_self (by omega)]
  exact ⟨rfl, h2⟩

/-! ### The first of the greatest -/
def mostTo (L : List Int) : Nat → Int
  | 0 => -1
  | k + 1 => if 0 ≤ L.getD k (-1) ∧ (mostTo L k < 0 ∨ L.getD (mostTo L k).toNat (-1) < L.getD k (-1)) then (k : Int) else mostTo L k
/-- What holds of the first of the greatest among the first k. -/
def MostOk (L : List Int) (k : Nat) (b : Int) : Prop := (b = -1 ∧ ∀ i, i < k → L.getD i (-1) < 0) ∨ ∃ j : Nat, b = (j : Int) ∧ j < k ∧ 0 ≤ L.getD j (-1) ∧ (∀ i, i < k → L.getD i (-1) ≤ L.getD j (-1)) ∧ ∀ i, i < j → L.getD i (-1) < L.getD j (-1)
theorem mostTo_ok (L : List Int) : ∀ k, MostOk L k (mostTo L k)
  | 0 => .inl ⟨rfl, fun i hi => absurd hi (by omega)⟩
  | k + 1 => by
    have h := mostTo_ok L k
    rw [mostTo]
    rcases h with ⟨e, h⟩ | ⟨j, e, hj, h0, hle, hlt⟩
    · rw [e]
      by_cases hk : 0 ≤ L.getD k (-1)
      · rw [if_pos ⟨hk, .inl (by omega)⟩]
        refine .inr ⟨k, rfl, by omega, hk, fun i hi => ?_, fun i hi => by have := h i hi; omega⟩
        rcases Nat.lt_or_ge i k with h1 | h1
        · have := h i h1; omega
        · rw [show i = k by omega]; exact Int.le_refl _
      · rw [if_neg (fun h => hk h.1)]
        refine .inl ⟨rfl, fun i hi => ?_⟩
        rcases Nat.lt_or_ge i k with h1 | h1
        · exact h i h1
        · rw [show i = k by omega]; omega
    · rw [e, Int.toNat_natCast]
      by_cases hk : L.getD j (-1) < L.getD k (-1)
      · rw [if_pos ⟨by omega, .inr hk⟩]
        refine .inr ⟨k, rfl, by omega, by omega, fun i hi => ?_, fun i hi => by have := hle i hi; omega⟩
        rcases Nat.lt_or_ge i k with h1 | h1
        · have := hle i h1; omega
        · rw [show i = k by omega]; exact Int.le_refl _
      · rw [if_neg (fun h => by rcases h.2 with h | h <;> omega)]
        refine .inr ⟨j, rfl, by omega, h0, fun i hi => ?_, hlt⟩
        rcases Nat.lt_or_ge i k with h1 | h1
        · exact hle i h1
        · rw [show i = k by omega]; omega
/-- The first of the greatest, and this. -/
structure IsMost (L : List Int) (j : Nat) : Prop where
  lt : j < L.length
  nn : 0 ≤ L.getD j (-1)
  le : ∀ i, L.getD i (-1) ≤ L.getD j (-1)
  first : ∀ i, i < j → L.getD i (-1) < L.getD j (-1)
theorem most_is {L : List Int} {k : Nat} (hk : k < L.length) (h0 : 0 ≤ L.getD k (-1)) : ∃ j : Nat, mostTo L L.length = (j : Int) ∧ IsMost L j := by
  rcases mostTo_ok L L.length with ⟨_, h⟩ | ⟨j, e, hj, hn, hle, hlt⟩
  · have := h k hk; omega
  · refine ⟨j, e, hj, hn, fun i => ?_, hlt⟩
    rcases Nat.lt_or_ge i L.length with h1 | h1
    · exact hle i h1
    · have : L.getD i (-1) = -1 := by rw [List.getD_eq_getElem?_getD, List.getElem?_eq_none h1]; rfl
      omega
theorem max_of {L : List Int} {g : Int} (hne : L ≠ []) (hm : g ∈ L) (hle : ∀ x ∈ L, x ≤ g) : Go.Lib.maxOf L = g := by
  have key : ∀ (l : List Int) (z : Int), (∀ x ∈ l, x ≤ g) → z ≤ g → (g ∈ l ∨ z = g) → l.foldl max z = g := by
    intro l
    induction l with
    | nil => intro z _ _ h; rcases h with h | h; simp at h; exact h
    | cons y t ih =>
      intro z hl hz h
      rw [List.foldl_cons]
      have hy := hl y List.mem_cons_self
      refine ih _ (fun x hx => hl x (List.mem_cons_of_mem _ hx)) (by omega) ?_
      rcases h with h | h
      · rcases List.mem_cons.1 h with h | h
        · right; omega
        · exact .inl h
      · right; omega
  cases L with
  | nil => exact absurd rfl hne
  | cons y t => exact key _ _ hle (hle y List.mem_cons_self) (.inl hm)
theorem idx_of {L : List Int} {j : Nat} {g : Int} (hj : j < L.length) (h : L.getD j 0 = g) (hne : ∀ i, i < j → L.getD i 0 ≠ g) : Go.Lib.idxOf L g = (j : Int) := by
  have := Go.Lib.idxOf_hit L L.length j g hj (Nat.le_refl _) h hne
  rwa [List.take_length] at this

end Go.Proofs.YtomfgjbicpeggaaGreat

namespace Go.Proofs.YtomfgjbicpeggaaGreat
open Go.RowKit

theorem range_laid (w : World) (L : List Int) (E : TypeId) : (w.alloc (.cells (L.map (Value.int .i64)).toArray E)).rangeAt w.heap.size 0 (L.map (Value.int .i64)) := fun j v hv => by
  have h := newbox (w := w) (w' := w.alloc (.cells (L.map (Value.int .i64)).toArray E)) (cs := (L.map (Value.int .i64)).toArray) (t := E) (Below.refl _ _) j
  rw [Nat.zero_add, h, ← Array.getElem?_toList, List.toList_toArray]; exact hv
theorem range_keep {w w' : World} {g o : Nat} {cs : List Value} (h : w.rangeAt g o cs) (hg : g < w.heap.size) (hb : Below w.heap.size w w') : w'.rangeAt g o cs := fun j v hv => cell_keep (h j v hv) hg hb
theorem l1In_b (n lo hi : Int) (w : World) : Calls Tryz.prog 44 #[.int .i64 n, .int .i64 lo, .int .i64 hi] w fun e w' => e = .returned (.bool (inB n lo hi)) ∧ Below w.heap.size w w' :=
  (l1In_any n lo hi w).mono fun _ _ h => ⟨h.1, h.2 ▸ Below.refl _ _⟩
/-- Whether place i of the list has a distance of at most q. -/
def nearB (L : List Int) (q : Int) (i : Nat) : Bool := inB (L.getD i (-1)) 0 q
theorem near_in {L : List Int} {q x : Int} {i : Nat} (h : L[i]? = some x) : nearB L q i = inB x 0 q := by rw [nearB, List.getD_eq_getElem?_getD, h]; rfl
theorem getD_pad (L : List Int) (m i : Nat) : (L ++ List.replicate m (-1)).getD i (-1) = L.getD i (-1) := by
  rw [List.getD_eq_getElem?_getD, List.getD_eq_getElem?_getD]
  rcases Nat.lt_or_ge i L.length with h | h
  · rw [List.getElem?_append_left h]
  · rw [List.getElem?_append_right h, List.getElem?_eq_none h, List.getElem?_replicate]
    split <;> rfl
def okWithin (W H : Int) (xs : List Int) (a b p q : Int) : Bool := onB W H xs a b [p] && inB q 0 12
def withinV (W H : Int) (xs : List Int) (a b p q : Int) : List Int := if okWithin W H xs a b p q = true then selTo (nearB (distL W H xs a b p) q) (W * H).toNat else []

end Go.Proofs.YtomfgjbicpeggaaGreat

namespace Go.Proofs.YtomfgjbicpeggaaGreat
open Go.RowKit

theorem far_bd {W H a b p : Int} {xs : List Int} {N : Nat} (h : OnFacts W H xs a b N) (hp : hasB W H xs p = true) : ∀ x ∈ farL (leapsL W H xs a b) 64 p, -1 ≤ x ∧ x ≤ 64 := fun x hx => by
  have hr := (hasB_iff.1 hp).1
  have := h.wh; have := h.n
  obtain ⟨i, hi, rfl⟩ := List.getElem_of_mem hx
  have hb := (bfs_ok (adj := leapsL W H xs a b) (N := 64) (start := p) (by omega) (fun c _ y hy => by have := leaps_in h.wh hy; omega) 64).lo i _ (List.getElem?_eq_getElem hi)
  omega

set_option maxRecDepth 100000 in
set_option maxHeartbeats 2000000 in
theorem cellsWithin_any (L : List Int) (h64 : L.length = 64) (hb0 : ∀ x ∈ L, -1 ≤ x ∧ x ≤ 64) (q : Int) (w : World) :
    Calls Tryz.prog 40 #[.agg (L.map (Value.int .i64)).toArray, .int .i64 q] w fun e w' => ∃ A' n' c', e = .returned (.slice A' n' c') ∧ OwnI 3 w' w.heap.size A' n' c' (selTo (nearB L q) 64) ∧ Below w.heap.size w w' := by
  obtain ⟨i0, hi, hz0, hz1, hz2⟩ := info_parts infoI
  have HI := Lib.hid hi; have HZ0 := Lib.hid hz0; have HZ1 := Lib.hid hz1; have HZ2 := Lib.hid hz2
  clear hi hz0 hz1 hz2
  have HL := Lib.hid h64; have HB0 := Lib.hid hb0
  obtain ⟨W1, hW1⟩ : ∃ W1, W1 = w.alloc (.cells (L.map (Value.int .i64)).toArray 67) := ⟨_, rfl⟩
  have hrg := range_laid w L 67
  have HIN := Lib.hid (show (Tryz.prog.info? 67).map (·.size) = some (L.map (Value.int .i64)).length from infoD.trans (by rw [List.length_map, h64]))
  have hsz : W1.heap.size = w.heap.size + 1 := by rw [hW1]; simp
  have B := Lib.hid (show Below w.heap.size w W1 by rw [hW1]; exact below_new (Below.refl _ _) _)
  have hix := fun (k : Nat) (hk : k < 64) (x : Int) (hx : L[k]? = some x) (w' : World) => run_far L h64 k hk x hx w'
  obtain ⟨V, hV⟩ : ∃ V, V = L.map (Value.int .i64) := ⟨_, rfl⟩
  rw [← hV] at hW1 hrg HIN hix ⊢
  have HRG := Lib.hid hrg
  have HIX := Lib.hid hix
  clear hrg h64 hb0 hix hV
  go_enter Tryz.func40, Tryz.ntmps40
  go_wp2_with (refine wpList_load_mid rfl 67 (.tmp 2) rfl w.heap.size 0 rfl V _ HRG.out Tryz.underlying67 rfl HIN.out ?_)
  rw [← hW1]
  clear hW1 HRG
  go_loopw [5, 9] (fun v i wr => ∃ (k n' c' : Nat) (A' : Option Addr), k ≤ 64 ∧ i = .int .i64 k ∧ v = .slice A' n' c' ∧ OwnI 3 wr W1.heap.size A' n' c' (selTo (nearB L q) k) ∧ Below W1.heap.size W1 wr) (fun _ i _ => 64 - (intOf i).toNat)
  case atStart => exact ⟨0, 0, 0, none, by omega, rfl, rfl, OwnI.none_ _ _ _, Below.refl _ _⟩
  case round =>
    obtain ⟨k, n', c', A', hk, rfl, rfl, hown, hbw⟩ := hrel
    have hbsz := hbw.size
    by_cases hlt : k < 64
    · obtain ⟨x, hx⟩ : ∃ x, L[k]? = some x := ⟨_, List.getElem?_eq_getElem (show k < L.length by have := HL.out; omega)⟩
      have hxb := HB0.out x (List.mem_of_getElem? hx)
      have hix := HIX.out k hlt x hx
      have hn' : n' ≤ 64 := by have := selTo_len (nearB L q) k; have := hown.len; omega
      have hnb : nearB L q k = inB x 0 q := near_in hx
      have HX := Lib.hid hx; have HO := Lib.hid hown; have HB := Lib.hid hbw; have HNB := Lib.hid hnb
      clear hx hown hbw hnb
      by_cases hm : x = -1
      · subst hm
        go_wp2
        go_roundw
        case rel => exact ⟨k + 1, n', c', A', by omega, by go_num, rfl, by rw [selTo_no (by rw [HNB.out]; rfl)]; exact HO.out, HB.out⟩
        case measure => simp [intOf]; omega
      · have hm' : (x != -1) = true := by simpa using hm
        by_cases hq : x ≤ q
        · go_wp2_with (at_builtin; refine wpList_app1 rfl (.tmp 20) (.tmp 22) 22 3 rfl i0 Tryz.underlying22 HI.out HZ0.out HZ1.out HZ2.out W1.heap.size A' n' c' (selTo (nearB L q) k) (k : Int) rfl HO.out rfl (by omega) hbsz ?_; intro A2 c2 w2 hown2 hb2')
          have HO2 := Lib.hid hown2; have HB2 := Lib.hid (HB.out.trans hb2')
          clear hown2 hb2'
          go_wp2
          go_roundw
          case rel => exact ⟨k + 1, n' + 1, c2, A2, by omega, by go_num, rfl, by rw [selTo_yes (by rw [HNB.out, inB]; simp; omega)]; exact HO2.out, HB2.out⟩
          case measure => simp [intOf]; omega
        · go_wp2
          go_roundw
          case rel => exact ⟨k + 1, n', c', A', by omega, by go_num, rfl, by rw [selTo_no (by rw [HNB.out, inB]; simp; omega)]; exact HO.out, HB.out⟩
          case measure => simp [intOf]; omega
    · obtain rfl : k = 64 := by omega
      have HO := Lib.hid (hown.lower (show w.heap.size ≤ W1.heap.size by omega)); have HB := Lib.hid (below_next B.out hbw)
      clear hown hbw
      go_wp2
      go_ret
      exact ⟨_, _, _, rfl, HO.out, HB.out⟩

end Go.Proofs.YtomfgjbicpeggaaGreat

namespace Go.Proofs.YtomfgjbicpeggaaGreat
open Go.RowKit

theorem dist_bd {W H a b p : Int} {xs : List Int} {N : Nat} (h : OnFacts W H xs a b N) (hp : hasB W H xs p = true) : ∀ x ∈ distL W H xs a b p, -1 ≤ x ∧ x ≤ 64 := fun x hx => far_bd h hp x (by rw [far64 h hp]; exact List.mem_append_left _ hx)
theorem dist_self {W H a b p : Int} {xs : List Int} {N : Nat} (h : OnFacts W H xs a b N) (hp : hasB W H xs p = true) : (distL W H xs a b p).getD p.toNat (-1) = 0 := by
  have hr := (hasB_iff.1 hp).1
  have := h.wh
  rw [distL]
  exact far_start (by omega) (fun c _ y hy => by have := leaps_in h.wh hy; omega)
theorem dist_selfN {W H a b : Int} {s : Nat} {xs : List Int} {N : Nat} (h : OnFacts W H xs a b N) (hp : hasB W H xs (s : Int) = true) : (distL W H xs a b (s : Int)).getD s (-1) = 0 := dist_self h hp
theorem most_max {D L : List Int} {j m : Nat} (M : IsMost D j) (h : L = D ++ List.replicate m (-1)) : Go.Lib.maxOf L = D.getD j (-1) := by
  have hj := M.lt
  have e : D.getD j (-1) = D[j] := by rw [List.getD_eq_getElem?_getD, List.getElem?_eq_getElem hj]; rfl
  refine max_of ?_ ?_ ?_
  · intro h0; rw [h0] at h; have := congrArg List.length h; simp at this; omega
  · rw [h, e]; exact List.mem_append_left _ (List.getElem_mem hj)
  · intro x hx
    rw [h] at hx
    rcases List.mem_append.1 hx with hx | hx
    · obtain ⟨i, hi, rfl⟩ := List.getElem_of_mem hx
      have := M.le i
      rwa [List.getD_eq_getElem?_getD, List.getElem?_eq_getElem hi] at this
    · have := (List.mem_replicate.1 hx).2; have := M.nn; omega
theorem most_idx {D L : List Int} {j m : Nat} (M : IsMost D j) (h : L = D ++ List.replicate m (-1)) : Go.Lib.idxOf L (D.getD j (-1)) = (j : Int) := by
  have hj := M.lt
  have g : ∀ i, i < D.length → L.getD i 0 = D.getD i (-1) := fun i hi => by
    rw [h, List.getD_eq_getElem?_getD, List.getElem?_append_left hi, List.getD_eq_getElem?_getD, List.getElem?_eq_getElem hi]; rfl
  exact idx_of (by rw [h, List.length_append]; omega) (g j hj) (fun i hi => by rw [g i (by omega)]; have := M.first i hi; omega)
def farthAt (W H : Int) (xs : List Int) (a b p : Int) : Int := if onB W H xs a b [p] = true then mostTo (distL W H xs a b p) (W * H).toNat else 0
def farthBy (W H : Int) (xs : List Int) (a b p : Int) : Int := if onB W H xs a b [p] = true then (distL W H xs a b p).getD (mostTo (distL W H xs a b p) (W * H).toNat).toNat (-1) else 0

end Go.Proofs.YtomfgjbicpeggaaGreat

namespace Go.Proofs.YtomfgjbicpeggaaGreat
open Go.RowKit

theorem run_whole (g : Nat) (w : World) :
    (Instr.sliceAt 67 (.pointer (some ⟨g, 0, none⟩)) none none none).run Tryz.prog w = .ok (.slice (some ⟨g, 0, none⟩) 64 64) w := by
  have hl : Tryz.prog.arrayLen 67 = 64 := by kernel_rfl
  have he : Tryz.prog.elem 67 = 3 := by kernel_rfl
  have hu : Tryz.prog.underlying 67 = some (.array (Tryz.prog.arrayLen 67) (Tryz.prog.elem 67)) := by rw [hl, he]; exact Tryz.underlying67
  rw [run_sliceAt_array_all w _ _ hu, he, Tryz.sizeOf3, hl]
  simp [slicedAt]
  rfl

end Go.Proofs.YtomfgjbicpeggaaGreat
