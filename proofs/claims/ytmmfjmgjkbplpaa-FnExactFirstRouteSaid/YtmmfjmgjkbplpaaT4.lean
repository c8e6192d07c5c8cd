/-
  Contracts: distances from a cell, in the model.
-/
import Derived.Test.YtmmfjmgjkbplpaaT3
import Derived.Test.YtmmfjmgjkbplpaaS9
namespace Go.Proofs.Ytmmfjmgjkbplpaa
open Go.RowKit

theorem visit_prefix {d : Int} {k : Nat} {x : Int} : ∀ (l far q : List Int), q[k]? = some x → (visit d l (far, q)).2[k]? = some x
  | [], _, _, h => h
  | y :: t, far, q, h => by
    rw [visit]
    split
    · exact visit_prefix t _ _ (by
        have : k < q.length := (List.getElem?_eq_some_iff.1 h).1
        rw [List.getElem?_append_left this]; exact h)
    · exact visit_prefix t _ _ h
theorem minus_setN {N k : Nat} (h : k < N) : (List.replicate k (-1 : Int) ++ List.replicate (N - k) 0).set k (-1) = List.replicate (k + 1) (-1) ++ List.replicate (N - (k + 1)) 0 := by
  rw [List.set_append_right _ _ (by simp), List.length_replicate, Nat.sub_self]
  obtain ⟨m, hm⟩ : ∃ m, N - k = m + 1 := ⟨N - k - 1, by omega⟩
  rw [hm, List.replicate_succ, List.set_cons_zero, show N - (k + 1) = m by omega, show k + 1 = k + 1 from rfl, List.replicate_succ', List.append_assoc]
  rfl
theorem leaps_in {W H a b x y : Int} {xs : List Int} {N : Nat} (hN : W * H = (N : Int)) (h : y ∈ leapsL W H xs a b x) : 0 ≤ y ∧ y < N := by
  have := (hasB_iff.1 (cellsL_mem.1 (List.mem_filter.1 h).1)).1
  rw [hN] at this; exact this

set_option maxRecDepth 100000 in
set_option maxHeartbeats 4000000 in
theorem faFrom_any (W H : Int) (A : Option Addr) (n c : Nat) (xs : List Int) (a b : Int) (s N : Nat) (w : World) (ha : Rd w A n xs) (hg : goodB W H xs = true) (hWH : W * H = (N : Int)) (hs : s < N) :
    Calls Try.prog 29 #[brd W H A n c, lpr a b, .int .i64 (s : Int)] w fun e w' => ∃ g, e = .returned (.slice (some ⟨g, 0, none⟩) N N) ∧ OwnI 3 w' w.heap.size (some ⟨g, 0, none⟩) N N (farL (leapsL W H xs a b) N s) ∧ Below w.heap.size w w' := by
  have HWH := Lib.hid hWH
  have HOK := Lib.hid (fun k => bfs_ok (adj := leapsL W H xs a b) (N := N) (start := (s : Int)) (by omega) (fun c _ x hx => leaps_in hWH hx) k)
  have hN64 : N ≤ 64 := by obtain ⟨h1, h2, _, _⟩ := goodB_iff.1 hg; have := cells_le h1 h2; omega
  have hs0 : (0 : Int) ≤ (s : Int) := by omega
  have hs1 : (s : Int) < (N : Int) := by omega
  have hN0 : (0 : Int) ≤ (N : Int) := by omega
  obtain ⟨hW, hH, _, _⟩ := goodB_iff.1 hg
  have HW := Lib.hid hW; have HN := Lib.hid (cells_le hW hH)
  have HG := Lib.hid hg
  obtain ⟨i0, hi, hz0, hz1, hz2⟩ := info_parts infoI
  have HI := Lib.hid hi; have HZ0 := Lib.hid hz0; have HZ1 := Lib.hid hz1; have HZ2 := Lib.hid hz2
  clear hW hH hg hi hz0 hz1 hz2
  obtain ⟨W2, hW2⟩ : ∃ W2, W2 = (w.alloc (.cells #[.int .i64 W, .int .i64 H, .slice A n c] 30)).alloc (.cells #[.int .i64 a, .int .i64 b] 32) := ⟨_, rfl⟩
  have a0 : W2.cell? ⟨w.heap.size, 0, none⟩ = some (.int .i64 W) := by rw [hW2]; go_simp
  have a1 : W2.cell? ⟨w.heap.size, 1, none⟩ = some (.int .i64 H) := by rw [hW2]; go_simp
  have a2 : W2.cell? ⟨w.heap.size, 2, none⟩ = some (.slice A n c) := by rw [hW2]; go_simp
  have l0 : W2.cell? ⟨w.heap.size + 1, 0, none⟩ = some (.int .i64 a) := by rw [hW2]; go_simp
  have l1 : W2.cell? ⟨w.heap.size + 1, 1, none⟩ = some (.int .i64 b) := by rw [hW2]; go_simp
  have hsz : w.heap.size + 2 ≤ W2.heap.size := by rw [hW2]; simp
  have B := Lib.hid (show Below w.heap.size w W2 by rw [hW2]; exact below_new (below_new (Below.refl _ _) _) _)
  have R := Lib.hid (ha.keep B.out)
  have ga : w.heap.size < W2.heap.size := by omega
  have gl : w.heap.size + 1 < W2.heap.size := by omega
  go_enter Try.func29, Try.ntmps29
  go_wp2_with (at_make; refine wpList_make_full _ rfl _ _ 22 rfl w.heap.size 3 i0 (.int .i64 0) 1 Try.underlying22 HI.out HZ0.out HZ1.out .i64 .i64 _ _ N rfl rfl rfl rfl (by rw [HZ2.out]; omega) (by unfold maxLen; omega) (by simp; omega) ?_; intro w1 hown1 hg1)
  rw [← hW2] at hown1 hg1
  have hW2s : W2.heap.size = w.heap.size + 2 := by rw [hW2]; simp
  have hO1 : OwnI 3 w1 w.heap.size (some ⟨w.heap.size + 1 + 1, 0, none⟩) N N (List.replicate N 0) := by
    unfold OwnI
    rw [show N * 1 = N from by omega, hW2s] at hown1
    have e : (madeCells (Value.cells (.int .i64 0)) N).toList = List.replicate N (.int .i64 0) := toList_madeCells_one (.int .i64 0) N
    rw [e] at hown1
    simpa using hown1
  obtain ⟨fb, hfb⟩ : ∃ fb, fb = w.heap.size + 1 + 1 := ⟨_, rfl⟩
  rw [← hfb] at hO1 ⊢
  have hb1 : Below W2.heap.size W2 w1 := below_of_grown hg1 (Nat.le_refl _) (by simp)
  have hfb1 : W2.heap.size ≤ fb := by omega
  have hfb2 : fb < w1.heap.size := by rcases hO1.some_ (k := 0) (by omega) with ⟨g9, h9, _, h8⟩; injection h9 with h9; injection h9 with h9; omega
  have FAR := Lib.hid hO1; have B1 := Lib.hid hb1
  have hlow : w.heap.size + 2 ≤ W2.heap.size := by omega
  have hs1z := hb1.size
  clear hW2 hfb hown1 hg1 hO1 hb1 hsz hW2s hWH
  go_loopw [21] (fun i wr => ∃ k : Nat, k ≤ N ∧ i = .int .i64 k ∧ OwnI 3 wr w.heap.size (some ⟨fb, 0, none⟩) N N (List.replicate k (-1) ++ List.replicate (N - k) 0) ∧ w1.grownBy wr (some fb)) (fun i _ => N - (intOf i).toNat)
  case atStart => exact ⟨0, by omega, rfl, by simpa using FAR.out, grown_refl _ _⟩
  case round =>
    obtain ⟨k, hk, rfl, hown, hgw⟩ := hrel
    by_cases hlt : k < N
    · have hx : (List.replicate k (-1 : Int) ++ List.replicate (N - k) 0)[k]? = some 0 := by
        rw [List.getElem?_append_right (by simp), List.length_replicate, Nat.sub_self, List.getElem?_replicate, if_pos (by omega)]
      have c0 := hown.cell hx
      have f0 := hown.frozen k
      have hi0 : (0 : Int) ≤ (k : Int) := by omega
      have hi1 : (k : Int) < (N : Int) := by omega
      obtain ⟨o1, g1⟩ := hown.stored k (-1)
      rw [minus_setN hlt] at o1
      have O1 := Lib.hid o1; have G1 := Lib.hid (grown_next hgw g1)
      clear o1 g1 hgw hown hx
      go_wp2
      go_roundw
      case rel => exact ⟨k + 1, by omega, by go_num, O1.out, G1.out⟩
      case measure => simp [intOf]; omega
    · obtain rfl : N = k := by omega
      have hown2 : OwnI 3 wr w.heap.size (some ⟨fb, 0, none⟩) N N (List.replicate N (-1)) := by simpa using hown
      have hx : (List.replicate N (-1 : Int))[s]? = some (-1) := by rw [List.getElem?_replicate, if_pos hs]
      have c0 := hown2.cell hx
      have f0 := hown2.frozen s
      obtain ⟨o1, g1⟩ := hown2.stored s 0
      have hg2 := grown_next hgw g1
      have B2 := Lib.hid (B1.out.trans (below_of_grown hg2 (by omega) (fun g h => by injection h with h; omega)))
      have hszw := hgw.size
      have O1 := Lib.hid o1
      clear o1 g1 hgw hown hown2 hx hg2
      go_wp2
      have hqrow : OwnI 3 ((wr.setCell ⟨fb, s, none⟩ (.int .i64 0)).alloc (.cells #[.int .i64 (s : Int)] 3)) w.heap.size (some ⟨wr.heap.size, 0, none⟩) 1 1 [(s : Int)] := by
        have h := World.ownsRow_lit (base := w.heap.size) (e := 3) (wr.setCell ⟨fb, s, none⟩ (.int .i64 0)) (#[.int .i64 (s : Int)] : Array Value) 1 (size := 1) (by simp; omega) (by decide) rfl
        rw [size_setCell'] at h
        exact h
      have Q4 := Lib.hid hqrow
      have F4 := Lib.hid (O1.out.alloc (.cells #[.int .i64 (s : Int)] 3))
      have B4 : Hid (Below W2.heap.size W2 ((wr.setCell ⟨fb, s, none⟩ (.int .i64 0)).alloc (.cells #[.int .i64 (s : Int)] 3))) := Lib.hid (B2.out.alloc (by simp; omega) _)
      generalize (wr.setCell ⟨fb, s, none⟩ (.int .i64 0)).alloc (.cells #[.int .i64 (s : Int)] 3) = W4 at *
      have hqf : wr.heap.size ≠ fb := by omega
      have hq2 : W2.heap.size ≤ wr.heap.size := by omega
      clear hqrow O1 B2 c0 f0 FAR B1
      generalize wr.heap.size = gq0 at *
      have Q5 := Lib.hid (QAt.start Q4.out)
      clear Q4
      go_loopg [9, 10] 64 (fun gm s9 s10 wr => ∃ (k g k0 n2 c2 : Nat), k ≤ n2 ∧ n2 = (bfsTo (leapsL W H xs a b) N s k).2.length ∧ 64 - k ≤ gm ∧ s10 = .int .i64 k ∧ s9 = .slice (some ⟨g, k0, none⟩) n2 c2 ∧ QAt 3 wr w.heap.size g k0 n2 c2 (bfsTo (leapsL W H xs a b) N s k).2 ∧ OwnI 3 wr w.heap.size (some ⟨fb, 0, none⟩) N N (bfsTo (leapsL W H xs a b) N s k).1 ∧ g ≠ fb ∧ W2.heap.size ≤ g ∧ Below W2.heap.size W2 wr)
      case atStart => exact ⟨0, _, 0, 1, 1, by omega, rfl, by omega, rfl, rfl, Q5.out, by simpa [bfsTo] using F4.out, hqf, hq2, B4.out⟩
      case round =>
        clear Q5 F4 B4 hqf hq2
        obtain ⟨k, g, k0, n2, c2, hk2, hn2, hgm, rfl, rfl, hq, hfar, hgf, hg2, hbw⟩ := hrel
        have hQ64 := nodup_len (HOK.out k).nodup (HOK.out k).range
        have hqle := hq.le
        have HN2 := Lib.hid hn2
        by_cases hkn : k < n2
        · obtain ⟨x, hx⟩ : ∃ x, (bfsTo (leapsL W H xs a b) N s k).2[k]? = some x := ⟨_, List.getElem?_eq_getElem (show k < (bfsTo (leapsL W H xs a b) N s k).2.length by omega)⟩
          have hxr := (HOK.out k).range _ (List.mem_of_getElem? hx)
          obtain ⟨xn, rfl⟩ : ∃ xn : Nat, x = (xn : Int) := ⟨x.toNat, by omega⟩
          have hxn : xn < N := by omega
          have hx0 : (0 : Int) ≤ (xn : Int) := by omega
          have hx1 : (xn : Int) < (N : Int) := by omega
          obtain ⟨d, hd1, hd2, hd3, hd4⟩ := (HOK.out k).at_ hxn
          have hd0 : 0 ≤ d := by have := (HOK.out k).seen _ (List.mem_of_getElem? hx); rw [Int.toNat_natCast, hd2] at this; exact this
          have hd5 : d ≤ 64 := by omega
          have DD := Lib.hid hd2
          have cq0 := hq.cell hx
          have gqlt := hq.lt.2
          have gqlt0 := hq.lt.2
          have hk64 : k < 64 := by omega
          have X0 := Lib.hid hx
          have FK := Lib.hid hfar; have QK := Lib.hid hq; have BK := Lib.hid hbw
          replace a0 := cell_keep a0 ga hbw; replace a1 := cell_keep a1 ga hbw; replace a2 := cell_keep a2 ga hbw; replace l0 := cell_keep l0 gl hbw; replace l1 := cell_keep l1 gl hbw
          have ga := lt_keep ga hbw; have gl := lt_keep gl hbw
          have RR := Lib.hid (R.out.keep hbw)
          have hk0 : (0 : Int) ≤ (k : Int) := by omega
          have hk1 : (k : Int) < (n2 : Int) := by omega
          have hgfb : fb < wr.heap.size := by rcases hfar.some_ (k := 0) (by omega) with ⟨g9, h9, _, h8⟩; injection h9 with h9; injection h9 with h9; omega
          clear hx hxr hd1 hd2 hfar hq hbw hn2 R
          go_wp2
          go_region_held3 (fun w' => w'.cell? ⟨w.heap.size, 0, none⟩ = some (.int .i64 W) ∧ w'.cell? ⟨w.heap.size, 1, none⟩ = some (.int .i64 H) ∧ w'.cell? ⟨w.heap.size, 2, none⟩ = some (.slice A n c) ∧ w'.cell? ⟨w.heap.size + 1, 0, none⟩ = some (.int .i64 a) ∧ w'.cell? ⟨w.heap.size + 1, 1, none⟩ = some (.int .i64 b) ∧ w'.cell? ⟨g, k0 + k, none⟩ = some (.int .i64 (xn : Int))) (first | exact ⟨a0, a1, a2, l0, l1, cq0⟩)
            (first
              | (go_at_call 23; refine (boLeaps_any W H A n c xs a b (xn : Int) _ ?_ ?_ ?_).mono ?_; (first | exact RR.out | exact RR.out.drew1); (exact HG.out); (omega); rintro e wv ⟨A3, n3, c3, rfl, hl3, hb⟩; (repeat (first | replace hb := below_undrew hb | replace hb := below_undrewN' hb)); replace a0 := cell_keep a0 ga hb; replace a1 := cell_keep a1 ga hb; replace a2 := cell_keep a2 ga hb; replace l0 := cell_keep l0 gl hb; replace l1 := cell_keep l1 gl hb; replace cq0 := cell_keep cq0 gqlt hb; replace ga := lt_keep ga hb; replace gl := lt_keep gl hb; replace gqlt := lt_keep gqlt hb; replace FK := Lib.hid (FK.out.keep hb); replace QK := Lib.hid (QK.out.keep hb); replace BK := Lib.hid (BK.out.trans (hb.mono BK.out.size)); have hbz := hb.size))
          have ROW := Lib.hid hl3.rd
          have ROWB : Hid (∀ y, A3 = some y → y.block ≠ g ∧ y.block ≠ fb ∧ y.block < wv.heap.size) := Lib.hid (fun y hy => by
            rcases hl3.form with ⟨h, _⟩ | ⟨g9, h, h2, h3, _⟩
            · rw [h] at hy; cases hy
            · have h2' : wr.heap.size ≤ g9 := h2
              rw [h] at hy; injection hy with hy; rw [← hy]; exact ⟨by show g9 ≠ g; omega, by show g9 ≠ fb; omega, h3⟩)
          have ROWL := Lib.hid hl3.len
          have n39 := hl3.rd.2.1
          clear hl3 hb RR a0 a1 a2 l0 l1 cq0
          go_wp2
          go_loopw [9, 47] (fun s9 s47 wx => ∃ (j g1 k1 nq cq : Nat), j ≤ n3 ∧ s47 = .int .i64 j ∧ s9 = .slice (some ⟨g1, k1, none⟩) nq cq ∧ nq = (visit d ((leapsL W H xs a b xn).take j) (bfsTo (leapsL W H xs a b) N s k)).2.length ∧ QAt 3 wx w.heap.size g1 k1 nq cq (visit d ((leapsL W H xs a b xn).take j) (bfsTo (leapsL W H xs a b) N s k)).2 ∧ OwnI 3 wx w.heap.size (some ⟨fb, 0, none⟩) N N (visit d ((leapsL W H xs a b xn).take j) (bfsTo (leapsL W H xs a b) N s k)).1 ∧ g1 ≠ fb ∧ W2.heap.size ≤ g1 ∧ Rd wx A3 n3 (leapsL W H xs a b xn) ∧ (∀ y, A3 = some y → y.block ≠ g1 ∧ y.block ≠ fb ∧ y.block < wx.heap.size) ∧ Below W2.heap.size W2 wx) (fun _ s47 _ => n3 - (intOf s47).toNat)
          case atStart => exact ⟨0, g, k0, n2, c2, Nat.zero_le _, rfl, rfl, by rw [List.take_zero]; exact HN2.out, by rw [List.take_zero]; exact QK.out, by rw [List.take_zero]; exact FK.out, hgf, hg2, ROW.out, ROWB.out, BK.out⟩
          case round =>
            obtain ⟨j, g1, k1, nq, cq, hj, rfl, rfl, hlen, hq, hfar, hg1f, hg12, hrow, hrowb, hbw⟩ := hrel
            have OKV : Hid (BfsOk N ((k : Int) + 1) (visit d ((leapsL W H xs a b xn).take j) (bfsTo (leapsL W H xs a b) N s k)).1 (visit d ((leapsL W H xs a b xn).take j) (bfsTo (leapsL W H xs a b) N s k)).2) := Lib.hid (visit_ok (d := d) ⟨by omega, by omega⟩ _ _ _ (fun z hz => leaps_in HWH.out (List.mem_of_mem_take hz)) ((HOK.out k).mono (by omega)))
            have hQ64 := nodup_len OKV.out.nodup OKV.out.range
            have DK : Hid ((visit d ((leapsL W H xs a b xn).take j) (bfsTo (leapsL W H xs a b) N s k)).1.getD xn 0 = d) := Lib.hid ((visit_keeps ((leapsL W H xs a b xn).take j) _ _ (by rw [DD.out]; exact hd0)).trans DD.out)
            have hxq := visit_prefix (d := d) ((leapsL W H xs a b xn).take j) (bfsTo (leapsL W H xs a b) N s k).1 _ X0.out
            obtain ⟨st, hst⟩ : ∃ st, visit d ((leapsL W H xs a b xn).take j) (bfsTo (leapsL W H xs a b) N s k) = st := ⟨_, rfl⟩
            rw [show visit d ((leapsL W H xs a b xn).take j) ((bfsTo (leapsL W H xs a b) N s k).1, (bfsTo (leapsL W H xs a b) N s k).2) = visit d ((leapsL W H xs a b xn).take j) (bfsTo (leapsL W H xs a b) N s k) from rfl] at hxq
            rw [hst] at hq hlen hfar hQ64 OKV DK hxq
            have HST := Lib.hid hst
            clear hst
            obtain ⟨F, Q⟩ := st
            simp only at hq hlen hfar hQ64 hxq
            by_cases hjl : j < n3
            · obtain ⟨b2, o2, y, rfl, hb2, hy, y0⟩ := hrow.at_ hjl
              have hyr := leaps_in HWH.out (List.mem_of_getElem? hy)
              obtain ⟨yn, rfl⟩ : ∃ yn : Nat, y = (yn : Int) := ⟨y.toNat, by omega⟩
              have hyn : yn < N := by omega
              have hy0 : (0 : Int) ≤ (yn : Int) := by omega
              have hy1 : (yn : Int) < (N : Int) := by omega
              obtain ⟨v, hv1, hv2, hv3, hv4⟩ := OKV.out.at_ hyn
              obtain ⟨dv, hdv1, hdv2, _, _⟩ := OKV.out.at_ hxn
              have hdd : dv = d := by have := DK.out; simp only at this hdv2; omega
              rw [hdd] at hdv1
              simp only at hv1 hdv1 hv2
              have cy := hfar.cell hv1
              have cd := hfar.cell hdv1
              have fy := hfar.frozen yn
              have cx := hq.cell hxq
              have HY := Lib.hid hy; have HV2 := Lib.hid hv2
              have HQ := Lib.hid hq; have HF := Lib.hid hfar; have HB := Lib.hid hbw; have HR := Lib.hid hrow; have HRB := Lib.hid hrowb
              have hbsz := hbw.size
              have hnq : nq ≤ 64 := by omega
              have hknq : (k : Int) < (nq : Int) := by have := (List.getElem?_eq_some_iff.1 hxq).1; omega
              have HLEN := Lib.hid hlen
              have hfblt : fb < wr.heap.size := by rcases HF.out.some_ (k := 0) (by omega) with ⟨g9, h9, _, h8⟩; injection h9 with h9; injection h9 with h9; omega
              clear hy hv1 hdv1 hv2 hq hfar hbw hlen hdd hdv2 hrow hrowb hxq
              by_cases hneg : v < 0
              · obtain ⟨o1, g2⟩ := HF.out.stored yn (d + 1)
                have OF := Lib.hid o1
                have HQ2 := Lib.hid (HQ.out.other g2 (by simp; omega))
                have HR2 := Lib.hid (HR.out.other g2 (fun a ha => by have := (HRB.out a ha).2.1; simpa using this))
                have HB2 := Lib.hid (HB.out.trans (below_of_grown g2 (by omega) (fun g h => by injection h with h; omega)))
                clear o1 g2
                go_wp2_with (at_builtin; refine wpList_appQ rfl (.tmp 67) (.tmp 69) 22 rfl i0 Try.underlying22 HI.out HZ0.out HZ1.out HZ2.out (yn : Int) rfl HQ2.out (by rw [size_setCell']; rfl) (by omega) (by rw [size_setCell']; omega) ?_; intro g3 k3 c4 w3 hq3 hg3 hor)
                have hgl := HQ2.out.lt
                rw [size_setCell'] at hor hgl
                have HQ3 := Lib.hid hq3
                have OF3 := Lib.hid (OF.out.other hg3 (fun a ha => by injection ha with ha; rw [← ha]; simp; omega))
                have HR3 := Lib.hid (HR2.out.other hg3 (fun a ha => by have := (HRB.out a ha).1; simpa using this))
                have HB3 := Lib.hid (HB2.out.trans (below_of_grown hg3 (by rw [size_setCell']; omega) (fun g h => by injection h with h; omega)))
                have hsz3 := hg3.size
                rw [size_setCell'] at hsz3
                have hg3f : g3 ≠ fb := by omega
                have hg32 : W2.heap.size ≤ g3 := by omega
                have HRB3 : Hid (∀ y, (some ⟨b2, o2, none⟩ : Option Addr) = some y → y.block ≠ g3 ∧ y.block ≠ fb ∧ y.block < w3.heap.size) := Lib.hid (fun y hy => by
                  have h := HRB.out y hy
                  exact ⟨by omega, h.2.1, by omega⟩)
                clear hq3 hg3 hor
                go_wp2
                go_roundw
                case rel =>
                  have e : visit d ((leapsL W H xs a b xn).take (j + 1)) (bfsTo (leapsL W H xs a b) N s k) = (F.set yn (d + 1), Q ++ [(yn : Int)]) := by
                    rw [List.take_add_one, HY.out, visit_append, HST.out]
                    show visit d [(yn : Int)] (F, Q) = _
                    rw [visit_one, Int.toNat_natCast, if_pos (by rw [HV2.out]; exact hneg)]
                  first
                    | exact ⟨j + 1, g3, k3, nq + 1, c4, by omega, by go_num, rfl, by rw [e, HLEN.out]; simp, by rw [e]; exact HQ3.out, by rw [e]; exact OF3.out, hg3f, hg32, HR3.out, HRB3.out, HB3.out⟩
                    | exact ⟨_, _, _, ⟨j + 1, by omega, rfl, g3, k3, nq + 1, c4, rfl, by rw [e, HLEN.out]; simp, by rw [e]; exact HQ3.out, by rw [e]; exact OF3.out, hg3f, hg32, HR3.out, HRB3.out, HB3.out⟩, rfl, rfl, by go_num⟩
                case measure => simp [intOf]; omega
              · have hne : decide (v < 0) = false := by simpa using hneg
                go_wp2
                go_roundw
                case rel =>
                  have e : visit d ((leapsL W H xs a b xn).take (j + 1)) (bfsTo (leapsL W H xs a b) N s k) = (F, Q) := by
                    rw [List.take_add_one, HY.out, visit_append, HST.out]
                    show visit d [(yn : Int)] (F, Q) = _
                    rw [visit_one, Int.toNat_natCast, if_neg (by rw [HV2.out]; omega)]
                  exact ⟨j + 1, g1, k1, nq, cq, by omega, by go_num, rfl, by rw [e]; exact HLEN.out, by rw [e]; exact HQ.out, by rw [e]; exact HF.out, hg1f, hg12, HR.out, HRB.out, HB.out⟩
                case measure => simp [intOf]; omega
            · have e2 : (leapsL W H xs a b xn).take j = leapsL W H xs a b xn := List.take_of_length_le (by have := ROWL.out; omega)
              have HQ := Lib.hid hq; have HF := Lib.hid hfar; have HB := Lib.hid hbw; have HLEN := Lib.hid hlen
              have E2 := Lib.hid e2
              have hkq : k + 1 ≤ nq := by have := (List.getElem?_eq_some_iff.1 hxq).1; omega
              clear hq hfar hbw hlen e2 hxq hrow hrowb
              go_wp2
              go_roundg (64 - (k + 1))
              case measure => omega
              case rel =>
                have e : bfsTo (leapsL W H xs a b) N s (k + 1) = (F, Q) := by
                  rw [bfs_next X0.out, Int.toNat_natCast, DD.out, ← HST.out, E2.out]
                exact ⟨k + 1, g1, k1, nq, cq, hkq, by rw [e]; exact HLEN.out, by omega, by go_num, rfl, by rw [e]; exact HQ.out, by rw [e]; exact HF.out, hg1f, hg12, HB.out⟩
        · have hL : (bfsTo (leapsL W H xs a b) N s k).2.length ≤ k := by have := HN2.out; omega
          have hfe := far_of_end (adj := leapsL W H xs a b) (N := N) (start := (s : Int)) (by omega) (fun c _ x hx => leaps_in HWH.out hx) hL
          rw [hfe] at hfar
          have HF := Lib.hid hfar; have HB := Lib.hid hbw
          clear hL hfe hfar hbw hq hn2
          go_wp2
          go_ret
          exact ⟨fb, rfl, HF.out, B.out.trans (HB.out.mono B.out.size)⟩

end Go.Proofs.Ytmmfjmgjkbplpaa
