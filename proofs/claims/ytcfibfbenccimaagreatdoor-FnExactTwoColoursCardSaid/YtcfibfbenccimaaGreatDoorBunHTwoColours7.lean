/-
  Contracts: distances from a cell, in the program.
  Contracts: the cells to which a leaper leaps, and degrees, in the model.
  Contracts: distances from a cell, in the model.
  Contracts: LeapsFrom, DegreesOf.
  Contracts: DegreesOf, CountLeaps.
  Contracts: a leaper, a board and cells of it.
  Contracts: leaps onward, as a map from cells.
-/
import Derived.Test.YtcfibfbenccimaaGreatDoorBunHTwoColours6
import Derived.Deep.MidRow
import Derived.Deep.LoopGhost
import Derived.Test.YtcfibfbenccimaaGreatDoorBunHTwoColours5
import Derived.Test.YtcfibfbenccimaaGreatDoorBunHTwoColours3
import Derived.Test.YtcfibfbenccimaaGreatDoorBunHTwoColours4
namespace Go.Proofs.YtcfibfbenccimaaGreatDoor
open Go.RowKit

theorem size_setCell' (w : World) (p : Addr) (v : Value) : (w.setCell p v).heap.size = w.heap.size := by simp
theorem cell_keep' {w w' : World} {b i : Nat} {v : Value} (h : w.cell? ⟨b, i, none⟩ = some v) (lt : b < w.heap.size) (hb : Below w.heap.size w w') : w'.cell? ⟨b, i, none⟩ = some v := cell_keep h lt hb
theorem zeros_far : Tryz.zeroCells84.toList = (List.replicate 144 (0 : Int)).map (Value.int .i64) := by kernel_rfl
theorem infoD : (Tryz.prog.info? 84).map (·.size) = some 144 := by kernel_rfl
theorem range_of_own {E : TypeId} {w : World} {lo g n c : Nat} {xs : List Int} (h : OwnI E w lo (some ⟨g, 0, none⟩) n c xs) : w.rangeAt g 0 (xs.map (Value.int .i64)) := fun j v hv => by
  rw [List.getElem?_map] at hv
  cases hx : xs[j]? with
  | none => rw [hx] at hv; cases hv
  | some y => rw [hx] at hv; injection hv with hv; rw [← hv, Nat.zero_add]; exact h.cell hx
theorem there_of_own {E : TypeId} {w : World} {lo g n c : Nat} {xs : List Int} (h : OwnI E w lo (some ⟨g, 0, none⟩) n c xs) : w.there g 0 n := fun j hj => by
  have hl := h.len
  have hx : xs[j]? = some xs[j] := List.getElem?_eq_getElem (by omega)
  exact ⟨by rw [Nat.zero_add, h.cell hx]; rfl, h.frozen _⟩
theorem OwnI.setAll {E : TypeId} {lo g n c : Nat} : ∀ (ys : List Int) (o : Nat) {w : World} {xs : List Int}, OwnI E w lo (some ⟨g, 0, none⟩) n c xs → o + ys.length ≤ n →
    OwnI E (w.setCells g o (ys.map (Value.int .i64))) lo (some ⟨g, 0, none⟩) n c (xs.take o ++ ys ++ xs.drop (o + ys.length)) ∧ w.grownBy (w.setCells g o (ys.map (Value.int .i64))) (some g)
  | [], o, w, xs, h, _ => ⟨by simpa [World.setCells] using h, grown_refl _ _⟩
  | y :: ys, o, w, xs, h, ho => by
    have hl := h.len
    simp only [List.length_cons] at ho
    obtain ⟨h1, g1⟩ := h.stored o y
    obtain ⟨h2, g2⟩ := OwnI.setAll ys (o + 1) h1 (by omega)
    refine ⟨?_, grown_next g1 g2⟩
    have e : (xs.set o y).take (o + 1) ++ ys ++ (xs.set o y).drop (o + 1 + ys.length) = xs.take o ++ (y :: ys) ++ xs.drop (o + (ys.length + 1)) := by
      rw [List.take_add_one, List.getElem?_set_self (by omega), List.take_set_of_le (Nat.le_refl _), List.drop_set_of_lt (by omega)]
      simp [show o + 1 + ys.length = o + (ys.length + 1) by omega]
    rw [e] at h2
    exact h2
theorem full_block {E : TypeId} {w : World} {lo g n : Nat} {xs : List Int} (h : OwnI E w lo (some ⟨g, 0, none⟩) n n xs) (_hn : True := trivial) : w.heap[g]? = some (.cells (xs.map (Value.int .i64)).toArray E (0, 0)) := by
  obtain ⟨cur, hg, _, _, _, hcs, ht⟩ := ownI_block h
  rw [hg, ← ht, List.take_of_length_le (by rw [Array.length_toList]; omega)]
theorem OnMap.lookup2 {w w' : World} {lo mb : Nat} {cells : List Int} {adj : Int → List Int} (h : OnMap w lo mb cells adj) (hb : Below w.heap.size w w') {x : Int} (hx : x ∈ cells) (hr : 0 ≤ x ∧ x ≤ 144) :
    ∃ A n c, (Instr.lookup 67 (.map (some mb)) (.int .i64 x) false).run Tryz.prog w' = .ok (.slice A n c) w' ∧ Rd w A n (adj x) ∧ n ≤ 144 := by
  obtain ⟨_, m, f, _, h2, h3⟩ := h
  obtain ⟨A, n, c, hv, h4, h5, _⟩ := h3 x hx
  exact ⟨A, n, c, by rw [(h2.keep hb).lookup Tryz.underlying3 Tryz.underlying67 (zero_ints w') (wf_small hr), hv], h4, by omega⟩

set_option maxRecDepth 100000 in
set_option maxHeartbeats 4000000 in
theorem distancesFrom_any (lo0 mb : Nat) (cells : List Int) (adj : Int → List Int) (s : Nat) (w : World) (hm : OnMap w lo0 mb cells adj) (hs : s < 144) (hsc : (s : Int) ∈ cells) (hcl : ∀ x ∈ cells, 0 ≤ x ∧ x < 144) (hadj : ∀ x, ∀ y ∈ adj x, y ∈ cells) :
    Calls Tryz.prog 74 #[.map (some mb), .int .i64 (s : Int)] w fun e w' => e = .returned (.agg ((farL adj 144 s).map (Value.int .i64)).toArray) ∧ Below w.heap.size w w' := by
  have HM := Lib.hid hm; have HSC := Lib.hid hsc; have HCL := Lib.hid hcl; have HADJ := Lib.hid hadj
  have HOK := Lib.hid (fun k => bfs_ok (adj := adj) (N := 144) (start := (s : Int)) (by omega) (fun c _ x hx => hcl x (hadj c x hx)) k)
  have HCELL : Hid (∀ k x, x ∈ (bfsTo adj 144 s k).2 → x ∈ cells) := Lib.hid (fun k => bfs_cells hsc hadj k)
  clear hm hsc hcl hadj
  have hs0 : (0 : Int) ≤ (s : Int) := by omega
  have hs1 : (s : Int) < 144 := by omega
  obtain ⟨i0, hi, hz0, hz1, hz2⟩ := info_parts infoI
  have HI := Lib.hid hi; have HZ0 := Lib.hid hz0; have HZ1 := Lib.hid hz1; have HZ2 := Lib.hid hz2
  clear hi hz0 hz1 hz2
  go_enter Tryz.func74, Tryz.ntmps74
  go_wp2
  generalize hW2 : (w.alloc (.cells Tryz.zeroCells84 84)).alloc (.cells Tryz.zeroCells84 84) = W2
  have hfar : OwnI 84 W2 w.heap.size (some ⟨w.heap.size + 1, 0, none⟩) 144 144 (List.replicate 144 0) := by
    have h := World.ownsRow_lit (base := w.heap.size) (e := 84) (w.alloc (.cells Tryz.zeroCells84 84)) (Tryz.zeroCells84 : Array Value) 144 (size := 1) (by simp) (by decide) (by kernel_rfl)
    rw [hW2, zeros_far] at h
    have e : (w.alloc (.cells Tryz.zeroCells84 84)).heap.size = w.heap.size + 1 := by simp
    rw [e] at h
    exact h
  have hres : OwnI 84 W2 w.heap.size (some ⟨w.heap.size, 0, none⟩) 144 144 (List.replicate 144 0) := by
    have h := World.ownsRow_lit (base := w.heap.size) (e := 84) w (Tryz.zeroCells84 : Array Value) 144 (size := 1) (Nat.le_refl _) (by decide) (by kernel_rfl)
    rw [zeros_far] at h
    have h2 := World.ownsRow.alloc h (.cells Tryz.zeroCells84 84)
    rw [hW2] at h2
    exact h2
  have hB2 : Below w.heap.size w W2 := by rw [← hW2]; exact below_new (below_new (Below.refl _ _) _) _
  have hsz2 : w.heap.size + 2 ≤ W2.heap.size := by rw [← hW2]; simp
  obtain ⟨fb, hfb⟩ : ∃ fb, fb = w.heap.size + 1 := ⟨_, rfl⟩
  rw [← hfb] at hfar ⊢
  have hfb1 : w.heap.size < fb := by omega
  have hfb2 : fb < W2.heap.size := by omega
  have FAR := Lib.hid hfar; have RES := Lib.hid hres; have B := Lib.hid hB2
  clear hW2 hfar hres hB2 hfb
  go_loopw [11] (fun i wr => ∃ k : Nat, k ≤ 144 ∧ i = .int .i64 k ∧ OwnI 84 wr w.heap.size (some ⟨fb, 0, none⟩) 144 144 (List.replicate k (-1) ++ List.replicate (144 - k) 0) ∧ W2.grownBy wr (some fb)) (fun i _ => 144 - (intOf i).toNat)
  case atStart => exact ⟨0, by omega, rfl, FAR.out, grown_refl _ _⟩
  case round =>
    obtain ⟨k, hk, rfl, hown, hgw⟩ := hrel
    by_cases hlt : k < 144
    · have hx : (List.replicate k (-1 : Int) ++ List.replicate (144 - k) 0)[k]? = some 0 := by
        rw [List.getElem?_append_right (by simp), List.length_replicate, Nat.sub_self, List.getElem?_replicate, if_pos (by omega)]
      have c0 := hown.cell hx
      have f0 := hown.frozen k
      have hi0 : (0 : Int) ≤ (k : Int) := by omega
      have hi1 : (k : Int) < 144 := by omega
      obtain ⟨o1, g1⟩ := hown.stored k (-1)
      rw [minus_set hlt] at o1
      have O1 := Lib.hid o1; have G1 := Lib.hid (grown_next hgw g1)
      clear o1 g1 hgw hown hx
      go_wp2
      go_roundw
      case rel => exact ⟨k + 1, by omega, by go_num, O1.out, G1.out⟩
      case measure => simp [intOf]; omega
    · obtain rfl : k = 144 := by omega
      have hown2 : OwnI 84 wr w.heap.size (some ⟨fb, 0, none⟩) 144 144 (List.replicate 144 (-1)) := by simpa using hown
      have hx : (List.replicate 144 (-1 : Int))[s]? = some (-1) := by rw [List.getElem?_replicate, if_pos hs]
      have c0 := hown2.cell hx
      have f0 := hown2.frozen s
      obtain ⟨o1, g1⟩ := hown2.stored s 0
      have hg2 := grown_next hgw g1
      have RES2 := Lib.hid (RES.out.other hg2 (fun a ha => by injection ha with ha; rw [← ha]; simp; omega))
      have B2 := Lib.hid (B.out.trans (below_of_grown hg2 (by omega) (fun g h => by injection h with h; omega)))
      have hszw := hgw.size
      have O1 := Lib.hid o1
      clear o1 g1 hgw hown hown2 hx hg2
      go_wp2
      have hqrow : OwnI 3 ((wr.setCell ⟨fb, s, none⟩ (.int .i64 0)).alloc (.cells #[.int .i64 (s : Int)] 3)) w.heap.size (some ⟨wr.heap.size, 0, none⟩) 1 1 [(s : Int)] := by
        have h := World.ownsRow_lit (base := w.heap.size) (e := 3) (wr.setCell ⟨fb, s, none⟩ (.int .i64 0)) (#[.int .i64 (s : Int)] : Array Value) 1 (size := 1) (by simp; omega) (by decide) rfl
        rw [size_setCell'] at h
        exact h
      have Q4 := Lib.hid (QAt.start hqrow)
      have F4 := Lib.hid (O1.out.alloc (.cells #[.int .i64 (s : Int)] 3))
      have R4 := Lib.hid (RES2.out.alloc (.cells #[.int .i64 (s : Int)] 3))
      have B4 : Hid (Below w.heap.size w ((wr.setCell ⟨fb, s, none⟩ (.int .i64 0)).alloc (.cells #[.int .i64 (s : Int)] 3))) := Lib.hid (B2.out.alloc (by simp; omega) _)
      generalize (wr.setCell ⟨fb, s, none⟩ (.int .i64 0)).alloc (.cells #[.int .i64 (s : Int)] 3) = W4 at *
      have hqf : wr.heap.size ≠ fb := by omega
      have hqr : wr.heap.size ≠ w.heap.size := by omega
      clear hqrow O1 RES2 B2 c0 f0 FAR RES B
      go_loopg [7] 144 (fun gm s7 wr => ∃ (k g k0 n c : Nat), k + n = (bfsTo adj 144 s k).2.length ∧ 144 - k ≤ gm ∧ s7 = .slice (some ⟨g, k0, none⟩) n c ∧ QAt 3 wr w.heap.size g k0 n c ((bfsTo adj 144 s k).2.drop k) ∧ OwnI 84 wr w.heap.size (some ⟨fb, 0, none⟩) 144 144 (bfsTo adj 144 s k).1 ∧ g ≠ fb ∧ g ≠ w.heap.size ∧ OwnI 84 wr w.heap.size (some ⟨w.heap.size, 0, none⟩) 144 144 (List.replicate 144 0) ∧ Below w.heap.size w wr)
      case atStart => exact ⟨0, _, 0, 1, 1, rfl, by omega, rfl, Q4.out, by simpa [bfsTo] using F4.out, hqf, hqr, R4.out, B4.out⟩
      case round =>
        clear Q4 F4 R4 B4 hqf hqr
        rename_i wr0 _ _
        obtain ⟨k, g, k0, n, c, hkn, hgm, rfl, hq, hfar, hgf, hgr, hres, hbw⟩ := hrel
        have hQ64 := nodup_len (HOK.out k).nodup (HOK.out k).range
        have hqle := hq.le
        by_cases hn0 : 0 < n
        · obtain ⟨x, hx⟩ : ∃ x, (bfsTo adj 144 s k).2[k]? = some x := ⟨_, List.getElem?_eq_getElem (show k < (bfsTo adj 144 s k).2.length by omega)⟩
          have hdr := drop_cons_of hx
          have hxc := HCELL.out k x (List.mem_of_getElem? hx)
          have hxr := HCL.out x hxc
          obtain ⟨xn, rfl⟩ : ∃ xn : Nat, x = (xn : Int) := ⟨x.toNat, by omega⟩
          have hxn : xn < 144 := by omega
          have hx0 : (0 : Int) ≤ (xn : Int) := by omega
          have hx1 : (xn : Int) < 144 := by omega
          obtain ⟨d, hd1, hd2, hd3, hd4⟩ := (HOK.out k).at_ hxn
          have hd0 : 0 ≤ d := by have := (HOK.out k).seen _ (List.mem_of_getElem? hx); rw [Int.toNat_natCast, hd2] at this; exact this
          have hd5 : d ≤ 144 := by omega
          have DD := Lib.hid hd2
          rw [hdr] at hq
          have c0 := hq.cell (j := 0) rfl
          simp only [Nat.add_zero] at c0
          obtain ⟨A2, n2, c2, hlook, hrow, hn2⟩ := HM.out.lookup2 hbw hxc (by omega)
          have ROW := Lib.hid hrow
          have ROWL := Lib.hid hrow.1
          have n29 := hrow.2.1
          have X0 := Lib.hid hx
          have FK := Lib.hid hfar; have RK := Lib.hid hres; have BK := Lib.hid hbw
          obtain ⟨m, rfl⟩ : ∃ m, n = m + 1 := ⟨n - 1, by omega⟩
          obtain ⟨e, rfl⟩ : ∃ e, c = e + 1 := ⟨c - 1, by omega⟩
          have HKN := Lib.hid hkn
          have hk63 : k + 1 ≤ (bfsTo adj 144 s k).2.length := by omega
          clear hx hdr hxc hxr hd1 hd2 hrow hfar hres hbw hkn
          by_cases he : e = 0
          · subst he
            obtain rfl : m = 0 := by omega
            have hlast : (bfsTo adj 144 s k).2.drop (k + 1) = [] := List.drop_eq_nil_of_le (by have := HKN.out; omega)
            rw [hlast] at hq
            have QP : Hid (QAt 3 wr w.heap.size g k0 0 0 ((bfsTo adj 144 s k).2.drop (k + 1))) := Lib.hid (by rw [hlast]; exact hq.pop_last)
            clear hlast hq
            go_wp2
            clear c0 hlook
            go_loopw [7, 33] (fun s7 s33 wx => ∃ (j g1 k1 nq cq : Nat), j ≤ n2 ∧ s33 = .int .i64 j ∧ s7 = .slice (some ⟨g1, k1, none⟩) nq cq ∧ QAt 3 wx w.heap.size g1 k1 nq cq ((visit d ((adj xn).take j) (bfsTo adj 144 s k)).2.drop (k + 1)) ∧ k + 1 + nq = (visit d ((adj xn).take j) (bfsTo adj 144 s k)).2.length ∧ OwnI 84 wx w.heap.size (some ⟨fb, 0, none⟩) 144 144 (visit d ((adj xn).take j) (bfsTo adj 144 s k)).1 ∧ g1 ≠ fb ∧ g1 ≠ w.heap.size ∧ OwnI 84 wx w.heap.size (some ⟨w.heap.size, 0, none⟩) 144 144 (List.replicate 144 0) ∧ Below w.heap.size w wx ∧ wr.heap.size ≤ wx.heap.size) (fun _ s33 _ => n2 - (intOf s33).toNat)
            case atStart => exact ⟨0, g, k0, 0, 0, Nat.zero_le _, rfl, rfl, by rw [List.take_zero]; exact QP.out, by rw [List.take_zero]; show _ = (bfsTo adj 144 s k).2.length; have := HKN.out; omega, by rw [List.take_zero]; exact FK.out, hgf, hgr, RK.out, BK.out, Nat.le_refl _⟩
            case round =>
              obtain ⟨j, g1, k1, nq, cq, hj, rfl, rfl, hq, hlen, hfar, hg1f, hg1r, hres, hbw, hszx⟩ := hrel
              have OKV : Hid (BfsOk 144 ((k : Int) + 1) (visit d ((adj xn).take j) (bfsTo adj 144 s k)).1 (visit d ((adj xn).take j) (bfsTo adj 144 s k)).2) := Lib.hid (visit_ok (d := d) ⟨by omega, by omega⟩ _ _ _ (fun z hz => HCL.out z (HADJ.out _ z (List.mem_of_mem_take hz))) ((HOK.out k).mono (by omega)))
              have hQ64 := nodup_len OKV.out.nodup OKV.out.range
              have DK : Hid ((visit d ((adj xn).take j) (bfsTo adj 144 s k)).1.getD xn 0 = d) := Lib.hid ((visit_keeps ((adj xn).take j) _ _ (by rw [DD.out]; exact hd0)).trans DD.out)
              obtain ⟨st, hst⟩ : ∃ st, visit d ((adj xn).take j) (bfsTo adj 144 s k) = st := ⟨_, rfl⟩
              rw [hst] at hq hlen hfar hQ64 OKV DK
              have HST := Lib.hid hst
              clear hst
              obtain ⟨F, Q⟩ := st
              simp only at hq hlen hfar hQ64
              by_cases hjl : j < n2
              · obtain ⟨b2, o2, y, rfl, hb2, hy, y0⟩ := ROW.out.at_ hjl
                replace y0 := cell_keep' y0 hb2 hbw
                have hyc := HADJ.out _ y (List.mem_of_getElem? hy)
                have hyr := HCL.out y hyc
                obtain ⟨yn, rfl⟩ : ∃ yn : Nat, y = (yn : Int) := ⟨y.toNat, by omega⟩
                have hyn : yn < 144 := by omega
                have hy0 : (0 : Int) ≤ (yn : Int) := by omega
                have hy1 : (yn : Int) < 144 := by omega
                obtain ⟨v, hv1, hv2, hv3, hv4⟩ := OKV.out.at_ hyn
                obtain ⟨dv, hdv1, hdv2, _, _⟩ := OKV.out.at_ hxn
                have hdd : dv = d := by have := DK.out; simp only at this hdv2; omega
                rw [hdd] at hdv1
                simp only at hv1 hdv1 hv2
                have cy := hfar.cell hv1
                have cd := hfar.cell hdv1
                have fy := hfar.frozen yn
                have HY := Lib.hid hy; have HV2 := Lib.hid hv2
                have HQ := Lib.hid hq; have HF := Lib.hid hfar; have HR := Lib.hid hres; have HB := Lib.hid hbw
                have hbsz := hbw.size
                have hnq : nq ≤ 144 := by omega
                have HLEN := Lib.hid hlen
                clear hy hv1 hdv1 hv2 hq hfar hres hbw hlen hdd hdv2
                by_cases hneg : v = -1
                · subst hneg
                  obtain ⟨o1, g2⟩ := HF.out.stored yn (d + 1)
                  have OF := Lib.hid o1; have GF := Lib.hid g2
                  have HQ2 := Lib.hid (HQ.out.other g2 (by simp; omega))
                  have HR2 := Lib.hid (HR.out.other g2 (fun a ha => by injection ha with ha; rw [← ha]; simp; omega))
                  have HB2 := Lib.hid (HB.out.trans (below_of_grown g2 (by omega) (fun g h => by injection h with h; omega)))
                  clear o1 g2
                  go_wp2_with (at_builtin; refine wpList_appQ rfl (.tmp 47) (.tmp 49) 22 rfl i0 Tryz.underlying22 HI.out HZ0.out HZ1.out HZ2.out (yn : Int) rfl HQ2.out (by rw [size_setCell']; rfl) (by omega) (by rw [size_setCell']; omega) ?_; intro g3 k3 c3 w3 hq3 hg3 hor)
                  have hgl := HQ2.out.lt
                  have hfblt : fb < wr.heap.size := by rcases HF.out.some_ (k := 0) (by omega) with ⟨g9, h9, _, h8⟩; injection h9 with h9; injection h9 with h9; omega
                  rw [size_setCell'] at hor
                  have HQ3 := Lib.hid hq3
                  have OF3 := Lib.hid (OF.out.other hg3 (fun a ha => by injection ha with ha; rw [← ha]; simp; omega))
                  have HR3 := Lib.hid (HR2.out.other hg3 (fun a ha => by injection ha with ha; rw [← ha]; simp; omega))
                  have HB3 := Lib.hid (HB2.out.trans (below_of_grown hg3 (by rw [size_setCell']; omega) (fun g h => by injection h with h; omega)))
                  have hsz3 := hg3.size
                  rw [size_setCell'] at hsz3
                  have hg3f : g3 ≠ fb := by omega
                  have hg3r : g3 ≠ w.heap.size := by omega
                  clear hq3 hg3 hor
                  go_wp2
                  go_roundw
                  case rel =>
                    have e : visit d ((adj xn).take (j + 1)) (bfsTo adj 144 s k) = (F.set yn (d + 1), Q ++ [(yn : Int)]) := by
                      rw [List.take_add_one, HY.out, visit_append, HST.out]
                      show visit d [(yn : Int)] (F, Q) = _
                      rw [visit_one, Int.toNat_natCast, if_pos (by rw [HV2.out]; decide)]
                    exact ⟨_, _, _, ⟨j + 1, by omega, rfl, g3, k3, nq + 1, c3, rfl, by rw [e]; show QAt _ _ _ _ _ _ _ ((Q ++ [(yn : Int)]).drop (k + 1)); rw [List.drop_append_of_le_length (by have := HLEN.out; omega)]; exact HQ3.out, by rw [e]; show _ = (Q ++ [(yn : Int)]).length; rw [List.length_append]; have := HLEN.out; simp; omega, by rw [e]; exact OF3.out, hg3f, hg3r, HR3.out, HB3.out, by omega⟩, rfl, rfl, by go_num⟩
                  case measure => simp [intOf]; omega
                · have hne : (v == -1) = false := by simpa using hneg
                  go_wp2
                  go_roundw
                  case rel =>
                    have e : visit d ((adj xn).take (j + 1)) (bfsTo adj 144 s k) = (F, Q) := by
                      rw [List.take_add_one, HY.out, visit_append, HST.out]
                      show visit d [(yn : Int)] (F, Q) = _
                      rw [visit_one, Int.toNat_natCast, if_neg (by rw [HV2.out]; omega)]
                    exact ⟨j + 1, g1, k1, nq, cq, by omega, by go_num, rfl, by rw [e]; exact HQ.out, by rw [e]; exact HLEN.out, by rw [e]; exact HF.out, hg1f, hg1r, HR.out, HB.out, hszx⟩
                  case measure => simp [intOf]; omega
              · have e2 : (adj xn).take j = adj xn := List.take_of_length_le (by have := ROWL.out; omega)
                have HQ := Lib.hid hq; have HF := Lib.hid hfar; have HR := Lib.hid hres; have HB := Lib.hid hbw; have HLEN := Lib.hid hlen
                have E2 := Lib.hid e2
                clear hq hfar hres hbw hlen e2
                go_wp2
                go_roundg (144 - (k + 1))
                case measure => omega
                case rel =>
                  have e : bfsTo adj 144 s (k + 1) = (F, Q) := by
                    rw [bfs_next X0.out, Int.toNat_natCast, DD.out, ← HST.out, E2.out]
                  exact ⟨k + 1, g1, k1, nq, cq, by rw [e]; exact HLEN.out, by omega, rfl, by rw [e]; exact HQ.out, by rw [e]; exact HF.out, hg1f, hg1r, HR.out, HB.out⟩
          · have QP : Hid (QAt 3 wr w.heap.size g (k0 + 1) m e ((bfsTo adj 144 s k).2.drop (k + 1))) := Lib.hid hq.pop
            clear hq
            have he0 : 0 < e := by omega
            have he1 : (0 : Int) < (e : Int) := by omega
            go_wp2
            clear c0 hlook
            go_loopw [7, 33] (fun s7 s33 wx => ∃ (j g1 k1 nq cq : Nat), j ≤ n2 ∧ s33 = .int .i64 j ∧ s7 = .slice (some ⟨g1, k1, none⟩) nq cq ∧ QAt 3 wx w.heap.size g1 k1 nq cq ((visit d ((adj xn).take j) (bfsTo adj 144 s k)).2.drop (k + 1)) ∧ k + 1 + nq = (visit d ((adj xn).take j) (bfsTo adj 144 s k)).2.length ∧ OwnI 84 wx w.heap.size (some ⟨fb, 0, none⟩) 144 144 (visit d ((adj xn).take j) (bfsTo adj 144 s k)).1 ∧ g1 ≠ fb ∧ g1 ≠ w.heap.size ∧ OwnI 84 wx w.heap.size (some ⟨w.heap.size, 0, none⟩) 144 144 (List.replicate 144 0) ∧ Below w.heap.size w wx ∧ wr.heap.size ≤ wx.heap.size) (fun _ s33 _ => n2 - (intOf s33).toNat)
            case atStart => exact ⟨0, g, (k0 + 1), m, e, Nat.zero_le _, rfl, rfl, by rw [List.take_zero]; exact QP.out, by rw [List.take_zero]; show _ = (bfsTo adj 144 s k).2.length; have := HKN.out; omega, by rw [List.take_zero]; exact FK.out, hgf, hgr, RK.out, BK.out, Nat.le_refl _⟩
            case round =>
              obtain ⟨j, g1, k1, nq, cq, hj, rfl, rfl, hq, hlen, hfar, hg1f, hg1r, hres, hbw, hszx⟩ := hrel
              have OKV : Hid (BfsOk 144 ((k : Int) + 1) (visit d ((adj xn).take j) (bfsTo adj 144 s k)).1 (visit d ((adj xn).take j) (bfsTo adj 144 s k)).2) := Lib.hid (visit_ok (d := d) ⟨by omega, by omega⟩ _ _ _ (fun z hz => HCL.out z (HADJ.out _ z (List.mem_of_mem_take hz))) ((HOK.out k).mono (by omega)))
              have hQ64 := nodup_len OKV.out.nodup OKV.out.range
              have DK : Hid ((visit d ((adj xn).take j) (bfsTo adj 144 s k)).1.getD xn 0 = d) := Lib.hid ((visit_keeps ((adj xn).take j) _ _ (by rw [DD.out]; exact hd0)).trans DD.out)
              obtain ⟨st, hst⟩ : ∃ st, visit d ((adj xn).take j) (bfsTo adj 144 s k) = st := ⟨_, rfl⟩
              rw [hst] at hq hlen hfar hQ64 OKV DK
              have HST := Lib.hid hst
              clear hst
              obtain ⟨F, Q⟩ := st
              simp only at hq hlen hfar hQ64
              by_cases hjl : j < n2
              · obtain ⟨b2, o2, y, rfl, hb2, hy, y0⟩ := ROW.out.at_ hjl
                replace y0 := cell_keep' y0 hb2 hbw
                have hyc := HADJ.out _ y (List.mem_of_getElem? hy)
                have hyr := HCL.out y hyc
                obtain ⟨yn, rfl⟩ : ∃ yn : Nat, y = (yn : Int) := ⟨y.toNat, by omega⟩
                have hyn : yn < 144 := by omega
                have hy0 : (0 : Int) ≤ (yn : Int) := by omega
                have hy1 : (yn : Int) < 144 := by omega
                obtain ⟨v, hv1, hv2, hv3, hv4⟩ := OKV.out.at_ hyn
                obtain ⟨dv, hdv1, hdv2, _, _⟩ := OKV.out.at_ hxn
                have hdd : dv = d := by have := DK.out; simp only at this hdv2; omega
                rw [hdd] at hdv1
                simp only at hv1 hdv1 hv2
                have cy := hfar.cell hv1
                have cd := hfar.cell hdv1
                have fy := hfar.frozen yn
                have HY := Lib.hid hy; have HV2 := Lib.hid hv2
                have HQ := Lib.hid hq; have HF := Lib.hid hfar; have HR := Lib.hid hres; have HB := Lib.hid hbw
                have hbsz := hbw.size
                have hnq : nq ≤ 144 := by omega
                have HLEN := Lib.hid hlen
                clear hy hv1 hdv1 hv2 hq hfar hres hbw hlen hdd hdv2
                by_cases hneg : v = -1
                · subst hneg
                  obtain ⟨o1, g2⟩ := HF.out.stored yn (d + 1)
                  have OF := Lib.hid o1; have GF := Lib.hid g2
                  have HQ2 := Lib.hid (HQ.out.other g2 (by simp; omega))
                  have HR2 := Lib.hid (HR.out.other g2 (fun a ha => by injection ha with ha; rw [← ha]; simp; omega))
                  have HB2 := Lib.hid (HB.out.trans (below_of_grown g2 (by omega) (fun g h => by injection h with h; omega)))
                  clear o1 g2
                  go_wp2_with (at_builtin; refine wpList_appQ rfl (.tmp 47) (.tmp 49) 22 rfl i0 Tryz.underlying22 HI.out HZ0.out HZ1.out HZ2.out (yn : Int) rfl HQ2.out (by rw [size_setCell']; rfl) (by omega) (by rw [size_setCell']; omega) ?_; intro g3 k3 c3 w3 hq3 hg3 hor)
                  have hgl := HQ2.out.lt
                  have hfblt : fb < wr.heap.size := by rcases HF.out.some_ (k := 0) (by omega) with ⟨g9, h9, _, h8⟩; injection h9 with h9; injection h9 with h9; omega
                  rw [size_setCell'] at hor
                  have HQ3 := Lib.hid hq3
                  have OF3 := Lib.hid (OF.out.other hg3 (fun a ha => by injection ha with ha; rw [← ha]; simp; omega))
                  have HR3 := Lib.hid (HR2.out.other hg3 (fun a ha => by injection ha with ha; rw [← ha]; simp; omega))
                  have HB3 := Lib.hid (HB2.out.trans (below_of_grown hg3 (by rw [size_setCell']; omega) (fun g h => by injection h with h; omega)))
                  have hsz3 := hg3.size
                  rw [size_setCell'] at hsz3
                  have hg3f : g3 ≠ fb := by omega
                  have hg3r : g3 ≠ w.heap.size := by omega
                  clear hq3 hg3 hor
                  go_wp2
                  go_roundw
                  case rel =>
                    have e : visit d ((adj xn).take (j + 1)) (bfsTo adj 144 s k) = (F.set yn (d + 1), Q ++ [(yn : Int)]) := by
                      rw [List.take_add_one, HY.out, visit_append, HST.out]
                      show visit d [(yn : Int)] (F, Q) = _
                      rw [visit_one, Int.toNat_natCast, if_pos (by rw [HV2.out]; decide)]
                    exact ⟨_, _, _, ⟨j + 1, by omega, rfl, g3, k3, nq + 1, c3, rfl, by rw [e]; show QAt _ _ _ _ _ _ _ ((Q ++ [(yn : Int)]).drop (k + 1)); rw [List.drop_append_of_le_length (by have := HLEN.out; omega)]; exact HQ3.out, by rw [e]; show _ = (Q ++ [(yn : Int)]).length; rw [List.length_append]; have := HLEN.out; simp; omega, by rw [e]; exact OF3.out, hg3f, hg3r, HR3.out, HB3.out, by omega⟩, rfl, rfl, by go_num⟩
                  case measure => simp [intOf]; omega
                · have hne : (v == -1) = false := by simpa using hneg
                  go_wp2
                  go_roundw
                  case rel =>
                    have e : visit d ((adj xn).take (j + 1)) (bfsTo adj 144 s k) = (F, Q) := by
                      rw [List.take_add_one, HY.out, visit_append, HST.out]
                      show visit d [(yn : Int)] (F, Q) = _
                      rw [visit_one, Int.toNat_natCast, if_neg (by rw [HV2.out]; omega)]
                    exact ⟨j + 1, g1, k1, nq, cq, by omega, by go_num, rfl, by rw [e]; exact HQ.out, by rw [e]; exact HLEN.out, by rw [e]; exact HF.out, hg1f, hg1r, HR.out, HB.out, hszx⟩
                  case measure => simp [intOf]; omega
              · have e2 : (adj xn).take j = adj xn := List.take_of_length_le (by have := ROWL.out; omega)
                have HQ := Lib.hid hq; have HF := Lib.hid hfar; have HR := Lib.hid hres; have HB := Lib.hid hbw; have HLEN := Lib.hid hlen
                have E2 := Lib.hid e2
                clear hq hfar hres hbw hlen e2
                go_wp2
                go_roundg (144 - (k + 1))
                case measure => omega
                case rel =>
                  have e : bfsTo adj 144 s (k + 1) = (F, Q) := by
                    rw [bfs_next X0.out, Int.toNat_natCast, DD.out, ← HST.out, E2.out]
                  exact ⟨k + 1, g1, k1, nq, cq, by rw [e]; exact HLEN.out, by omega, rfl, by rw [e]; exact HQ.out, by rw [e]; exact HF.out, hg1f, hg1r, HR.out, HB.out⟩
        · obtain rfl : n = 0 := by omega
          have hL : (bfsTo adj 144 s k).2.length ≤ k := by omega
          have hfe := far_of_end (adj := adj) (N := 144) (start := (s : Int)) (by omega) (fun c _ x hx => HCL.out x (HADJ.out c x hx)) hL
          rw [hfe] at hfar
          have hl64 : (farL adj 144 s).length = 144 := by rw [← hfe]; exact (HOK.out k).len
          have hrg : wr.rangeAt fb 0 ((farL adj 144 s).map (Value.int .i64)) := range_of_own hfar
          have hth : wr.there w.heap.size 0 ((farL adj 144 s).map (Value.int .i64)).toArray.size := by
            have h : ((farL adj 144 s).map (Value.int .i64)).toArray.size = 144 := by simp [hl64]
            rw [h]; exact there_of_own hres
          obtain ⟨oz, gz⟩ := OwnI.setAll (farL adj 144 s) 0 hres (by omega)
          rw [show (List.replicate 144 (0 : Int)).take 0 ++ farL adj 144 s ++ (List.replicate 144 (0 : Int)).drop (0 + (farL adj 144 s).length) = farL adj 144 s by simp [hl64]] at oz
          have hblk := full_block oz
          have hin : (Tryz.prog.info? 84).map (·.size) = some ((farL adj 144 s).map (Value.int .i64)).length := infoD.trans (by rw [List.length_map, hl64])
          have hin2 : (Tryz.prog.info? 84).map (·.size) = some ((farL adj 144 s).map (Value.int .i64)).toArray.size := infoD.trans (by simp [hl64])
          have hone : ((farL adj 144 s).map (Value.int .i64)).toArray.all (·.oneCell') = true := all_oneCell_toArray (fun v hv => by obtain ⟨y, _, rfl⟩ := List.mem_map.1 hv; rfl)
          have HRG := Lib.hid hrg; have HTH := Lib.hid hth; have HIN := Lib.hid hin; have HIN2 := Lib.hid hin2; have HONE := Lib.hid hone
          have HBLK := Lib.hid hblk; have GZ := Lib.hid gz; have HB := Lib.hid hbw
          have hbsz := hbw.size
          clear hL hfe hfar hl64 hrg hth oz gz hblk hin hin2 hone hbw hres hq hkn hQ64
          obtain ⟨L, hL⟩ : ∃ L, L = (farL adj 144 s).map (Value.int .i64) := ⟨_, rfl⟩
          rw [← hL] at HRG HTH HIN HIN2 HONE HBLK GZ
          have HL := Lib.hid hL
          clear hL
          go_wp2_with (first | (refine wpList_load_mid rfl 84 (.tmp 5) rfl fb 0 rfl L _ HRG.out Tryz.underlying84 rfl HIN.out ?_) | (refine wpList_store_mid rfl 84 (.tmp 4) (.tmp 52) rfl w.heap.size 0 L.toArray rfl rfl HTH.out HIN2.out HONE.out ?_))
          exact bodyPost_ret (v := .agg L.toArray) (results_cell_row Tryz.results74 _ _ w.heap.size 84 L.toArray (0, 0) _ rfl HBLK.out Tryz.underlying84 rfl HIN2.out) rfl ⟨by rw [HL.out], HB.out.trans (below_of_grown GZ.out hbsz (fun g h => by injection h with h; omega))⟩

end Go.Proofs.YtcfibfbenccimaaGreatDoor

namespace Go.Proofs.YtcfibfbenccimaaGreatDoor
open Go.RowKit

theorem filter_yes {f : Int → Bool} {l : List Int} {k : Nat} {x : Int} (hx : l[k]? = some x) (h : f x = true) : (l.take (k + 1)).filter f = (l.take k).filter f ++ [x] := by
  rw [List.take_add_one, hx, List.filter_append]; simp [h]
theorem filter_no {f : Int → Bool} {l : List Int} {k : Nat} {x : Int} (hx : l[k]? = some x) (h : f x = false) : (l.take (k + 1)).filter f = (l.take k).filter f := by
  rw [List.take_add_one, hx, List.filter_append]; simp [h]
theorem filter_len_le {f : Int → Bool} {l : List Int} {k : Nat} : ((l.take k).filter f).length ≤ k := Nat.le_trans (List.length_filter_le _ _) (by rw [List.length_take]; omega)
theorem cellsL_len64 {W H : Int} {xs : List Int} (hN : 1 ≤ W * H ∧ W * H ≤ 64) : (cellsL W H xs).length ≤ 64 := by
  have := cellsTo_len (W := W) (H := H) (hs := xs) (W * H).toNat; unfold cellsL; omega
theorem leapsL_len64 {W H a b q : Int} {xs : List Int} (hN : 1 ≤ W * H ∧ W * H ≤ 64) : (leapsL W H xs a b q).length ≤ 64 := Nat.le_trans (List.length_filter_le _ _) (cellsL_len64 hN)

set_option maxRecDepth 100000 in
set_option maxHeartbeats 2000000 in
theorem boLeaps_any (W H : Int) (A : Option Addr) (n c : Nat) (xs : List Int) (a b : Int) (q : Int) (w : World) (ha : Rd w A n xs) (hg : goodB W H xs = true) (hq : 0 ≤ q ∧ q ≤ 64) :
    Calls Tryz.prog 56 #[brd W H A n c, lpr a b, .int .i64 q] w fun e w' => ∃ A' n' c', e = .returned (.slice A' n' c') ∧ OwnI 3 w' w.heap.size A' n' c' (leapsL W H xs a b q) ∧ Below w.heap.size w w' := by
  have HQ := Lib.hid hq
  clear hq
  obtain ⟨hW, hH, _, _⟩ := goodB_iff.1 hg
  have HW := Lib.hid hW; have HN := Lib.hid (cells_le hW hH)
  have HG := Lib.hid hg
  obtain ⟨i0, hi, hz0, hz1, hz2⟩ := info_parts infoI
  have HI := Lib.hid hi; have HZ0 := Lib.hid hz0; have HZ1 := Lib.hid hz1; have HZ2 := Lib.hid hz2
  clear hW hH hg hi hz0 hz1 hz2
  obtain ⟨W2, hW2⟩ : ∃ W2, W2 = (w.alloc (.cells #[.int .i64 W, .int .i64 H, .slice A n c] 30)).alloc (.cells #[.int .i64 a, .int .i64 b] 32) := ⟨_, rfl⟩
  have a0 : W2.cell? ⟨w.heap.size, 0, none⟩ = some (.int .i64 W) := by rw [hW2]; go_simp
  have a1 : W2.cell? ⟨w.heap.size, 1, none⟩ = some (.int .i64 H) := by rw [hW2]; go_simp
  have a2 : W2.cell? ⟨w.heap.size, 2, none⟩ = some (.slice A n c) := by rw [hW2]; go_simp
  have l0 : W2.cell? ⟨w.heap.size + 1, 0, none⟩ = some (.int .i64 a) := by rw [hW2]; go_simp
  have l1 : W2.cell? ⟨w.heap.size + 1, 1, none⟩ = some (.int .i64 b) := by rw [hW2]; go_simp
  have hsz : w.heap.size + 2 ≤ W2.heap.size := by rw [hW2]; simp
  have B := Lib.hid (show Below w.heap.size w W2 by rw [hW2]; exact below_new (below_new (Below.refl _ _) _) _)
  have R := Lib.hid (ha.keep B.out)
  have ga : w.heap.size < W2.heap.size := by omega
  have gl : w.heap.size + 1 < W2.heap.size := by omega
  go_enter Tryz.func56, Tryz.ntmps56
  go_wp2_with fail
  rw [← hW2]
  clear hW2
  refine (boCells_any W H A n c xs _ R.out HN.out).mono ?_
  rintro e ws ⟨A1, n1, c1, rfl, hst, hb⟩
  replace a0 := cell_keep a0 ga hb; replace a1 := cell_keep a1 ga hb; replace a2 := cell_keep a2 ga hb; replace l0 := cell_keep l0 gl hb; replace l1 := cell_keep l1 gl hb; replace ga := lt_keep ga hb; replace gl := lt_keep gl hb; replace R := Lib.hid (R.out.keep hb)
  have hB0 := B.out.size
  replace B := Lib.hid (below_next B.out hb)
  have hs1 := hb.size
  have ST := Lib.hid hst.rd
  have SL := Lib.hid hst.len
  have n8 : n1 ≤ 64 := by have := cellsTo_len (W := W) (H := H) (hs := xs) (W * H).toNat; have := hst.len; have := HN.out; unfold cellsL at *; omega
  have n9 := hst.rd.2.1
  clear hst hb
  go_wp2
  go_loopw [7, 13] (fun v i wr => ∃ (k n' c' : Nat) (A' : Option Addr), k ≤ n1 ∧ i = .int .i64 k ∧ v = .slice A' n' c' ∧ OwnI 3 wr ws.heap.size A' n' c' (((cellsL W H xs).take k).filter (leapB W a b q)) ∧ Below ws.heap.size ws wr) (fun _ i _ => n1 - (intOf i).toNat)
  case atStart => exact ⟨0, 0, 0, none, by omega, rfl, rfl, OwnI.none_ _ _ _, Below.refl _ _⟩
  case round =>
    obtain ⟨k, n', c', A', hk, rfl, rfl, hown, hbw⟩ := hrel
    have hn' : n' ≤ 64 := by have := hown.len; have := filter_len_le (f := leapB W a b q) (l := cellsL W H xs) (k := k); omega
    by_cases hlt : k < n1
    · obtain ⟨bb, oo, x, rfl, hg1, hx, x0⟩ := ST.out.at_ hlt
      have HX := Lib.hid hx
      have hin := cellsL_mem.1 (List.mem_of_getElem? hx)
      have HIN := Lib.hid hin
      have HXR := Lib.hid (range_of HN.out hin)
      replace x0 := cell_keep x0 hg1 hbw
      have b0 := cell_keep a0 ga hbw; have b1 := cell_keep a1 ga hbw; have b2 := cell_keep a2 ga hbw; have m0 := cell_keep l0 gl hbw; have m1 := cell_keep l1 gl hbw
      have gb := lt_keep ga hbw; have gm := lt_keep gl hbw
      have RR := Lib.hid (R.out.keep hbw)
      have HO := Lib.hid hown; have HB := Lib.hid hbw
      have hsw := hbw.size
      clear hx hin hown hbw
      cases hs : leapB W a b q x with
      | true =>
        have HS := Lib.hid hs
        clear hs
        go_wp2_with fail
        refine (boIs_any W H A n c a b q x _ HW.out HQ.out HXR.out).mono ?_
        rw [HS.out]
        rintro e wv ⟨rfl, hb⟩
        replace b0 := cell_keep b0 gb hb; replace b1 := cell_keep b1 gb hb; replace b2 := cell_keep b2 gb hb; replace m0 := cell_keep m0 gm hb; replace m1 := cell_keep m1 gm hb; replace gb := lt_keep gb hb; replace gm := lt_keep gm hb; replace RR := Lib.hid (RR.out.keep hb); replace HO := Lib.hid (HO.out.keep hb); replace HB := Lib.hid (HB.out.trans (hb.mono (by omega))); replace hsw := Nat.le_trans hsw hb.size; clear hb
        go_wp2_with (at_builtin; refine wpList_app1 rfl (.tmp 22) (.tmp 24) 22 3 rfl i0 Tryz.underlying22 HI.out HZ0.out HZ1.out HZ2.out ws.heap.size A' n' c' (((cellsL W H xs).take k).filter (leapB W a b q)) x rfl HO.out rfl (by omega) hsw ?_; intro A2 c2 w2 hown2 hb2)
        have HO2 := Lib.hid hown2; have HB2 := Lib.hid (HB.out.trans hb2)
        clear hown2 hb2
        go_wp2
        go_roundw
        case rel => exact ⟨k + 1, n' + 1, c2, A2, by omega, by go_num, rfl, by rw [filter_yes HX.out HS.out]; exact HO2.out, HB2.out⟩
        case measure => simp [intOf]; omega
      | false =>
        have HS := Lib.hid hs
        clear hs
        go_wp2_with fail
        refine (boIs_any W H A n c a b q x _ HW.out HQ.out HXR.out).mono ?_
        rw [HS.out]
        rintro e wv ⟨rfl, hb⟩
        replace b0 := cell_keep b0 gb hb; replace b1 := cell_keep b1 gb hb; replace b2 := cell_keep b2 gb hb; replace m0 := cell_keep m0 gm hb; replace m1 := cell_keep m1 gm hb; replace gb := lt_keep gb hb; replace gm := lt_keep gm hb; replace RR := Lib.hid (RR.out.keep hb); replace HO := Lib.hid (HO.out.keep hb); replace HB := Lib.hid (HB.out.trans (hb.mono (by omega))); replace hsw := Nat.le_trans hsw hb.size; clear hb
        go_wp2
        go_roundw
        case rel => exact ⟨k + 1, n', c', A', by omega, by go_num, rfl, by rw [filter_no HX.out HS.out]; exact HO.out, HB.out⟩
        case measure => simp [intOf]; omega
    · have e2 : (cellsL W H xs).take k = cellsL W H xs := List.take_of_length_le (by have := SL.out; omega)
      rw [e2] at hown
      have HO := Lib.hid hown; have HB := Lib.hid hbw
      clear hown hbw e2
      go_wp2
      go_ret
      exact ⟨A', n', c', rfl, HO.out.lower (by omega), B.out.trans (HB.out.mono (by omega))⟩

def degL (W H : Int) (xs : List Int) (a b : Int) : List Int := (cellsL W H xs).map fun q => ((leapsL W H xs a b q).length : Int)

end Go.Proofs.YtcfibfbenccimaaGreatDoor

namespace Go.Proofs.YtcfibfbenccimaaGreatDoor
open Go.RowKit

theorem visit_prefix {d : Int} {k : Nat} {x : Int} : ∀ (l far q : List Int), q[k]? = some x → (visit d l (far, q)).2[k]? = some x
  | [], _, _, h => h
  | y :: t, far, q, h => by
    rw [visit]
    split
    · exact visit_prefix t _ _ (by
        have : k < q.length := (List.getElem?_eq_some_iff.1 h).1
        rw [List.getElem?_append_left this]; exact h)
    · exact visit_prefix t _ _ h
theorem minus_setN {N k : Nat} (h : k < N) : (List.replicate k (-1 : Int) ++ List.replicate (N - k) 0).set k (-1) = List.replicate (k + 1) (-1) ++ List.replicate (N - (k + 1)) 0 := by
  rw [List.set_append_right _ _ (by simp), List.length_replicate, Nat.sub_self]
  obtain ⟨m, hm⟩ : ∃ m, N - k = m + 1 := ⟨N - k - 1, by omega⟩
  rw [hm, List.replicate_succ, List.set_cons_zero, show N - (k + 1) = m by omega, show k + 1 = k + 1 from rfl, List.replicate_succ', List.append_assoc]
  rfl
theorem leaps_in {W H a b x y : Int} {xs : List Int} {N : Nat} (hN : W * H = (N : Int)) (h : y ∈ leapsL W H xs a b x) : 0 ≤ y ∧ y < N := by
  have := (hasB_iff.1 (cellsL_mem.1 (List.mem_filter.1 h).1)).1
  rw [hN] at this; exact this

set_option maxRecDepth 100000 in
set_option maxHeartbeats 4000000 in
theorem faFrom_any (W H : Int) (A : Option Addr) (n c : Nat) (xs : List Int) (a b : Int) (s N : Nat) (w : World) (ha : Rd w A n xs) (hg : goodB W H xs = true) (hWH : W * H = (N : Int)) (hs : s < N) :
    Calls Tryz.prog 71 #[brd W H A n c, lpr a b, .int .i64 (s : Int)] w fun e w' => ∃ g, e = .returned (.slice (some ⟨g, 0, none⟩) N N) ∧ OwnI 3 w' w.heap.size (some ⟨g, 0, none⟩) N N (farL (leapsL W H xs a b) N s) ∧ Below w.heap.size w w' := by
  have HWH := Lib.hid hWH
  have HOK := Lib.hid (fun k => bfs_ok (adj := leapsL W H xs a b) (N := N) (start := (s : Int)) (by omega) (fun c _ x hx => leaps_in hWH hx) k)
  have hN64 : N ≤ 64 := by obtain ⟨h1, h2, _, _⟩ := goodB_iff.1 hg; have := cells_le h1 h2; omega
  have hs0 : (0 : Int) ≤ (s : Int) := by omega
  have hs1 : (s : Int) < (N : Int) := by omega
  have hN0 : (0 : Int) ≤ (N : Int) := by omega
  obtain ⟨hW, hH, _, _⟩ := goodB_iff.1 hg
  have HW := Lib.hid hW; have HN := Lib.hid (cells_le hW hH)
  have HG := Lib.hid hg
  obtain ⟨i0, hi, hz0, hz1, hz2⟩ := info_parts infoI
  have HI := Lib.hid hi; have HZ0 := Lib.hid hz0; have HZ1 := Lib.hid hz1; have HZ2 := Lib.hid hz2
  clear hW hH hg hi hz0 hz1 hz2
  obtain ⟨W2, hW2⟩ : ∃ W2, W2 = (w.alloc (.cells #[.int .i64 W, .int .i64 H, .slice A n c] 30)).alloc (.cells #[.int .i64 a, .int .i64 b] 32) := ⟨_, rfl⟩
  have a0 : W2.cell? ⟨w.heap.size, 0, none⟩ = some (.int .i64 W) := by rw [hW2]; go_simp
  have a1 : W2.cell? ⟨w.heap.size, 1, none⟩ = some (.int .i64 H) := by rw [hW2]; go_simp
  have a2 : W2.cell? ⟨w.heap.size, 2, none⟩ = some (.slice A n c) := by rw [hW2]; go_simp
  have l0 : W2.cell? ⟨w.heap.size + 1, 0, none⟩ = some (.int .i64 a) := by rw [hW2]; go_simp
  have l1 : W2.cell? ⟨w.heap.size + 1, 1, none⟩ = some (.int .i64 b) := by rw [hW2]; go_simp
  have hsz : w.heap.size + 2 ≤ W2.heap.size := by rw [hW2]; simp
  have B := Lib.hid (show Below w.heap.size w W2 by rw [hW2]; exact below_new (below_new (Below.refl _ _) _) _)
  have R := Lib.hid (ha.keep B.out)
  have ga : w.heap.size < W2.heap.size := by omega
  have gl : w.heap.size + 1 < W2.heap.size := by omega
  go_enter Tryz.func71, Tryz.ntmps71
  go_wp2_with (at_make; refine wpList_make_full _ rfl _ _ 22 rfl w.heap.size 3 i0 (.int .i64 0) 1 Tryz.underlying22 HI.out HZ0.out HZ1.out .i64 .i64 _ _ N rfl rfl rfl rfl (by rw [HZ2.out]; omega) (by unfold maxLen; omega) (by simp; omega) ?_; intro w1 hown1 hg1)
  rw [← hW2] at hown1 hg1
  have hW2s : W2.heap.size = w.heap.size + 2 := by rw [hW2]; simp
  have hO1 : OwnI 3 w1 w.heap.size (some ⟨w.heap.size + 1 + 1, 0, none⟩) N N (List.replicate N 0) := by
    unfold OwnI
    rw [show N * 1 = N from by omega, hW2s] at hown1
    have e : (madeCells (Value.cells (.int .i64 0)) N).toList = List.replicate N (.int .i64 0) := toList_madeCells_one (.int .i64 0) N
    rw [e] at hown1
    simpa using hown1
  obtain ⟨fb, hfb⟩ : ∃ fb, fb = w.heap.size + 1 + 1 := ⟨_, rfl⟩
  rw [← hfb] at hO1 ⊢
  have hb1 : Below W2.heap.size W2 w1 := below_of_grown hg1 (Nat.le_refl _) (by simp)
  have hfb1 : W2.heap.size ≤ fb := by omega
  have hfb2 : fb < w1.heap.size := by rcases hO1.some_ (k := 0) (by omega) with ⟨g9, h9, _, h8⟩; injection h9 with h9; injection h9 with h9; omega
  have FAR := Lib.hid hO1; have B1 := Lib.hid hb1
  have hlow : w.heap.size + 2 ≤ W2.heap.size := by omega
  have hs1z := hb1.size
  clear hW2 hfb hown1 hg1 hO1 hb1 hsz hW2s hWH
  go_loopw [21] (fun i wr => ∃ k : Nat, k ≤ N ∧ i = .int .i64 k ∧ OwnI 3 wr w.heap.size (some ⟨fb, 0, none⟩) N N (List.replicate k (-1) ++ List.replicate (N - k) 0) ∧ w1.grownBy wr (some fb)) (fun i _ => N - (intOf i).toNat)
  case atStart => exact ⟨0, by omega, rfl, by simpa using FAR.out, grown_refl _ _⟩
  case round =>
    obtain ⟨k, hk, rfl, hown, hgw⟩ := hrel
    by_cases hlt : k < N
    · have hx : (List.replicate k (-1 : Int) ++ List.replicate (N - k) 0)[k]? = some 0 := by
        rw [List.getElem?_append_right (by simp), List.length_replicate, Nat.sub_self, List.getElem?_replicate, if_pos (by omega)]
      have c0 := hown.cell hx
      have f0 := hown.frozen k
      have hi0 : (0 : Int) ≤ (k : Int) := by omega
      have hi1 : (k : Int) < (N : Int) := by omega
      obtain ⟨o1, g1⟩ := hown.stored k (-1)
      rw [minus_setN hlt] at o1
      have O1 := Lib.hid o1; have G1 := Lib.hid (grown_next hgw g1)
      clear o1 g1 hgw hown hx
      go_wp2
      go_roundw
      case rel => exact ⟨k + 1, by omega, by go_num, O1.out, G1.out⟩
      case measure => simp [intOf]; omega
    · obtain rfl : N = k := by omega
      have hown2 : OwnI 3 wr w.heap.size (some ⟨fb, 0, none⟩) N N (List.replicate N (-1)) := by simpa using hown
      have hx : (List.replicate N (-1 : Int))[s]? = some (-1) := by rw [List.getElem?_replicate, if_pos hs]
      have c0 := hown2.cell hx
      have f0 := hown2.frozen s
      obtain ⟨o1, g1⟩ := hown2.stored s 0
      have hg2 := grown_next hgw g1
      have B2 := Lib.hid (B1.out.trans (below_of_grown hg2 (by omega) (fun g h => by injection h with h; omega)))
      have hszw := hgw.size
      have O1 := Lib.hid o1
      clear o1 g1 hgw hown hown2 hx hg2
      go_wp2
      have hqrow : OwnI 3 ((wr.setCell ⟨fb, s, none⟩ (.int .i64 0)).alloc (.cells #[.int .i64 (s : Int)] 3)) w.heap.size (some ⟨wr.heap.size, 0, none⟩) 1 1 [(s : Int)] := by
        have h := World.ownsRow_lit (base := w.heap.size) (e := 3) (wr.setCell ⟨fb, s, none⟩ (.int .i64 0)) (#[.int .i64 (s : Int)] : Array Value) 1 (size := 1) (by simp; omega) (by decide) rfl
        rw [size_setCell'] at h
        exact h
      have Q4 := Lib.hid hqrow
      have F4 := Lib.hid (O1.out.alloc (.cells #[.int .i64 (s : Int)] 3))
      have B4 : Hid (Below W2.heap.size W2 ((wr.setCell ⟨fb, s, none⟩ (.int .i64 0)).alloc (.cells #[.int .i64 (s : Int)] 3))) := Lib.hid (B2.out.alloc (by simp; omega) _)
      generalize (wr.setCell ⟨fb, s, none⟩ (.int .i64 0)).alloc (.cells #[.int .i64 (s : Int)] 3) = W4 at *
      have hqf : wr.heap.size ≠ fb := by omega
      have hq2 : W2.heap.size ≤ wr.heap.size := by omega
      clear hqrow O1 B2 c0 f0 FAR B1
      generalize wr.heap.size = gq0 at *
      have Q5 := Lib.hid (QAt.start Q4.out)
      clear Q4
      go_loopg [9, 10] 64 (fun gm s9 s10 wr => ∃ (k g k0 n2 c2 : Nat), k ≤ n2 ∧ n2 = (bfsTo (leapsL W H xs a b) N s k).2.length ∧ 64 - k ≤ gm ∧ s10 = .int .i64 k ∧ s9 = .slice (some ⟨g, k0, none⟩) n2 c2 ∧ QAt 3 wr w.heap.size g k0 n2 c2 (bfsTo (leapsL W H xs a b) N s k).2 ∧ OwnI 3 wr w.heap.size (some ⟨fb, 0, none⟩) N N (bfsTo (leapsL W H xs a b) N s k).1 ∧ g ≠ fb ∧ W2.heap.size ≤ g ∧ Below W2.heap.size W2 wr)
      case atStart => exact ⟨0, _, 0, 1, 1, by omega, rfl, by omega, rfl, rfl, Q5.out, by simpa [bfsTo] using F4.out, hqf, hq2, B4.out⟩
      case round =>
        clear Q5 F4 B4 hqf hq2
        obtain ⟨k, g, k0, n2, c2, hk2, hn2, hgm, rfl, rfl, hq, hfar, hgf, hg2, hbw⟩ := hrel
        have hQ64 := nodup_len (HOK.out k).nodup (HOK.out k).range
        have hqle := hq.le
        have HN2 := Lib.hid hn2
        by_cases hkn : k < n2
        · obtain ⟨x, hx⟩ : ∃ x, (bfsTo (leapsL W H xs a b) N s k).2[k]? = some x := ⟨_, List.getElem?_eq_getElem (show k < (bfsTo (leapsL W H xs a b) N s k).2.length by omega)⟩
          have hxr := (HOK.out k).range _ (List.mem_of_getElem? hx)
          obtain ⟨xn, rfl⟩ : ∃ xn : Nat, x = (xn : Int) := ⟨x.toNat, by omega⟩
          have hxn : xn < N := by omega
          have hx0 : (0 : Int) ≤ (xn : Int) := by omega
          have hx1 : (xn : Int) < (N : Int) := by omega
          obtain ⟨d, hd1, hd2, hd3, hd4⟩ := (HOK.out k).at_ hxn
          have hd0 : 0 ≤ d := by have := (HOK.out k).seen _ (List.mem_of_getElem? hx); rw [Int.toNat_natCast, hd2] at this; exact this
          have hd5 : d ≤ 64 := by omega
          have DD := Lib.hid hd2
          have cq0 := hq.cell hx
          have gqlt := hq.lt.2
          have gqlt0 := hq.lt.2
          have hk64 : k < 64 := by omega
          have X0 := Lib.hid hx
          have FK := Lib.hid hfar; have QK := Lib.hid hq; have BK := Lib.hid hbw
          replace a0 := cell_keep a0 ga hbw; replace a1 := cell_keep a1 ga hbw; replace a2 := cell_keep a2 ga hbw; replace l0 := cell_keep l0 gl hbw; replace l1 := cell_keep l1 gl hbw
          have ga := lt_keep ga hbw; have gl := lt_keep gl hbw
          have RR := Lib.hid (R.out.keep hbw)
          have hk0 : (0 : Int) ≤ (k : Int) := by omega
          have hk1 : (k : Int) < (n2 : Int) := by omega
          have hgfb : fb < wr.heap.size := by rcases hfar.some_ (k := 0) (by omega) with ⟨g9, h9, _, h8⟩; injection h9 with h9; injection h9 with h9; omega
          clear hx hxr hd1 hd2 hfar hq hbw hn2 R
          go_wp2
          go_region_held3 (fun w' => w'.cell? ⟨w.heap.size, 0, none⟩ = some (.int .i64 W) ∧ w'.cell? ⟨w.heap.size, 1, none⟩ = some (.int .i64 H) ∧ w'.cell? ⟨w.heap.size, 2, none⟩ = some (.slice A n c) ∧ w'.cell? ⟨w.heap.size + 1, 0, none⟩ = some (.int .i64 a) ∧ w'.cell? ⟨w.heap.size + 1, 1, none⟩ = some (.int .i64 b) ∧ w'.cell? ⟨g, k0 + k, none⟩ = some (.int .i64 (xn : Int))) (first | exact ⟨a0, a1, a2, l0, l1, cq0⟩)
            (first
              | (go_at_call 56; refine (boLeaps_any W H A n c xs a b (xn : Int) _ ?_ ?_ ?_).mono ?_; (first | exact RR.out | exact RR.out.drew1); (exact HG.out); (omega); rintro e wv ⟨A3, n3, c3, rfl, hl3, hb⟩; (repeat (first | replace hb := below_undrew hb | replace hb := below_undrewN' hb)); replace a0 := cell_keep a0 ga hb; replace a1 := cell_keep a1 ga hb; replace a2 := cell_keep a2 ga hb; replace l0 := cell_keep l0 gl hb; replace l1 := cell_keep l1 gl hb; replace cq0 := cell_keep cq0 gqlt hb; replace ga := lt_keep ga hb; replace gl := lt_keep gl hb; replace gqlt := lt_keep gqlt hb; replace FK := Lib.hid (FK.out.keep hb); replace QK := Lib.hid (QK.out.keep hb); replace BK := Lib.hid (BK.out.trans (hb.mono BK.out.size)); have hbz := hb.size))
          have ROW := Lib.hid hl3.rd
          have ROWB : Hid (∀ y, A3 = some y → y.block ≠ g ∧ y.block ≠ fb ∧ y.block < wv.heap.size) := Lib.hid (fun y hy => by
            rcases hl3.form with ⟨h, _⟩ | ⟨g9, h, h2, h3, _⟩
            · rw [h] at hy; cases hy
            · have h2' : wr.heap.size ≤ g9 := h2
              rw [h] at hy; injection hy with hy; rw [← hy]; exact ⟨by show g9 ≠ g; omega, by show g9 ≠ fb; omega, h3⟩)
          have ROWL := Lib.hid hl3.len
          have n39 := hl3.rd.2.1
          clear hl3 hb RR a0 a1 a2 l0 l1 cq0
          go_wp2
          go_loopw [9, 47] (fun s9 s47 wx => ∃ (j g1 k1 nq cq : Nat), j ≤ n3 ∧ s47 = .int .i64 j ∧ s9 = .slice (some ⟨g1, k1, none⟩) nq cq ∧ nq = (visit d ((leapsL W H xs a b xn).take j) (bfsTo (leapsL W H xs a b) N s k)).2.length ∧ QAt 3 wx w.heap.size g1 k1 nq cq (visit d ((leapsL W H xs a b xn).take j) (bfsTo (leapsL W H xs a b) N s k)).2 ∧ OwnI 3 wx w.heap.size (some ⟨fb, 0, none⟩) N N (visit d ((leapsL W H xs a b xn).take j) (bfsTo (leapsL W H xs a b) N s k)).1 ∧ g1 ≠ fb ∧ W2.heap.size ≤ g1 ∧ Rd wx A3 n3 (leapsL W H xs a b xn) ∧ (∀ y, A3 = some y → y.block ≠ g1 ∧ y.block ≠ fb ∧ y.block < wx.heap.size) ∧ Below W2.heap.size W2 wx) (fun _ s47 _ => n3 - (intOf s47).toNat)
          case atStart => exact ⟨0, g, k0, n2, c2, Nat.zero_le _, rfl, rfl, by rw [List.take_zero]; exact HN2.out, by rw [List.take_zero]; exact QK.out, by rw [List.take_zero]; exact FK.out, hgf, hg2, ROW.out, ROWB.out, BK.out⟩
          case round =>
            obtain ⟨j, g1, k1, nq, cq, hj, rfl, rfl, hlen, hq, hfar, hg1f, hg12, hrow, hrowb, hbw⟩ := hrel
            have OKV : Hid (BfsOk N ((k : Int) + 1) (visit d ((leapsL W H xs a b xn).take j) (bfsTo (leapsL W H xs a b) N s k)).1 (visit d ((leapsL W H xs a b xn).take j) (bfsTo (leapsL W H xs a b) N s k)).2) := Lib.hid (visit_ok (d := d) ⟨by omega, by omega⟩ _ _ _ (fun z hz => leaps_in HWH.out (List.mem_of_mem_take hz)) ((HOK.out k).mono (by omega)))
            have hQ64 := nodup_len OKV.out.nodup OKV.out.range
            have DK : Hid ((visit d ((leapsL W H xs a b xn).take j) (bfsTo (leapsL W H xs a b) N s k)).1.getD xn 0 = d) := Lib.hid ((visit_keeps ((leapsL W H xs a b xn).take j) _ _ (by rw [DD.out]; exact hd0)).trans DD.out)
            have hxq := visit_prefix (d := d) ((leapsL W H xs a b xn).take j) (bfsTo (leapsL W H xs a b) N s k).1 _ X0.out
            obtain ⟨st, hst⟩ : ∃ st, visit d ((leapsL W H xs a b xn).take j) (bfsTo (leapsL W H xs a b) N s k) = st := ⟨_, rfl⟩
            rw [show visit d ((leapsL W H xs a b xn).take j) ((bfsTo (leapsL W H xs a b) N s k).1, (bfsTo (leapsL W H xs a b) N s k).2) = visit d ((leapsL W H xs a b xn).take j) (bfsTo (leapsL W H xs a b) N s k) from rfl] at hxq
            rw [hst] at hq hlen hfar hQ64 OKV DK hxq
            have HST := Lib.hid hst
            clear hst
            obtain ⟨F, Q⟩ := st
            simp only at hq hlen hfar hQ64 hxq
            by_cases hjl : j < n3
            · obtain ⟨b2, o2, y, rfl, hb2, hy, y0⟩ := hrow.at_ hjl
              have hyr := leaps_in HWH.out (List.mem_of_getElem? hy)
              obtain ⟨yn, rfl⟩ : ∃ yn : Nat, y = (yn : Int) := ⟨y.toNat, by omega⟩
              have hyn : yn < N := by omega
              have hy0 : (0 : Int) ≤ (yn : Int) := by omega
              have hy1 : (yn : Int) < (N : Int) := by omega
              obtain ⟨v, hv1, hv2, hv3, hv4⟩ := OKV.out.at_ hyn
              obtain ⟨dv, hdv1, hdv2, _, _⟩ := OKV.out.at_ hxn
              have hdd : dv = d := by have := DK.out; simp only at this hdv2; omega
              rw [hdd] at hdv1
              simp only at hv1 hdv1 hv2
              have cy := hfar.cell hv1
              have cd := hfar.cell hdv1
              have fy := hfar.frozen yn
              have cx := hq.cell hxq
              have HY := Lib.hid hy; have HV2 := Lib.hid hv2
              have HQ := Lib.hid hq; have HF := Lib.hid hfar; have HB := Lib.hid hbw; have HR := Lib.hid hrow; have HRB := Lib.hid hrowb
              have hbsz := hbw.size
              have hnq : nq ≤ 64 := by omega
              have hknq : (k : Int) < (nq : Int) := by have := (List.getElem?_eq_some_iff.1 hxq).1; omega
              have HLEN := Lib.hid hlen
              have hfblt : fb < wr.heap.size := by rcases HF.out.some_ (k := 0) (by omega) with ⟨g9, h9, _, h8⟩; injection h9 with h9; injection h9 with h9; omega
              clear hy hv1 hdv1 hv2 hq hfar hbw hlen hdd hdv2 hrow hrowb hxq
              by_cases hneg : v < 0
              · obtain ⟨o1, g2⟩ := HF.out.stored yn (d + 1)
                have OF := Lib.hid o1
                have HQ2 := Lib.hid (HQ.out.other g2 (by simp; omega))
                have HR2 := Lib.hid (HR.out.other g2 (fun a ha => by have := (HRB.out a ha).2.1; simpa using this))
                have HB2 := Lib.hid (HB.out.trans (below_of_grown g2 (by omega) (fun g h => by injection h with h; omega)))
                clear o1 g2
                go_wp2_with (at_builtin; refine wpList_appQ rfl (.tmp 67) (.tmp 69) 22 rfl i0 Tryz.underlying22 HI.out HZ0.out HZ1.out HZ2.out (yn : Int) rfl HQ2.out (by rw [size_setCell']; rfl) (by omega) (by rw [size_setCell']; omega) ?_; intro g3 k3 c4 w3 hq3 hg3 hor)
                have hgl := HQ2.out.lt
                rw [size_setCell'] at hor hgl
                have HQ3 := Lib.hid hq3
                have OF3 := Lib.hid (OF.out.other hg3 (fun a ha => by injection ha with ha; rw [← ha]; simp; omega))
                have HR3 := Lib.hid (HR2.out.other hg3 (fun a ha => by have := (HRB.out a ha).1; simpa using this))
                have HB3 := Lib.hid (HB2.out.trans (below_of_grown hg3 (by rw [size_setCell']; omega) (fun g h => by injection h with h; omega)))
                have hsz3 := hg3.size
                rw [size_setCell'] at hsz3
                have hg3f : g3 ≠ fb := by omega
                have hg32 : W2.heap.size ≤ g3 := by omega
                have HRB3 : Hid (∀ y, (some ⟨b2, o2, none⟩ : Option Addr) = some y → y.block ≠ g3 ∧ y.block ≠ fb ∧ y.block < w3.heap.size) := Lib.hid (fun y hy => by
                  have h := HRB.out y hy
                  exact ⟨by omega, h.2.1, by omega⟩)
                clear hq3 hg3 hor
                go_wp2
                go_roundw
                case rel =>
                  have e : visit d ((leapsL W H xs a b xn).take (j + 1)) (bfsTo (leapsL W H xs a b) N s k) = (F.set yn (d + 1), Q ++ [(yn : Int)]) := by
                    rw [List.take_add_one, HY.out, visit_append, HST.out]
                    show visit d [(yn : Int)] (F, Q) = _
                    rw [visit_one, Int.toNat_natCast, if_pos (by rw [HV2.out]; exact hneg)]
                  first
                    | exact ⟨j + 1, g3, k3, nq + 1, c4, by omega, by go_num, rfl, by rw [e, HLEN.out]; simp, by rw [e]; exact HQ3.out, by rw [e]; exact OF3.out, hg3f, hg32, HR3.out, HRB3.out, HB3.out⟩
                    | exact ⟨_, _, _, ⟨j + 1, by omega, rfl, g3, k3, nq + 1, c4, rfl, by rw [e, HLEN.out]; simp, by rw [e]; exact HQ3.out, by rw [e]; exact OF3.out, hg3f, hg32, HR3.out, HRB3.out, HB3.out⟩, rfl, rfl, by go_num⟩
                case measure => simp [intOf]; omega
              · have hne : decide (v < 0) = false := by simpa using hneg
                go_wp2
                go_roundw
                case rel =>
                  have e : visit d ((leapsL W H xs a b xn).take (j + 1)) (bfsTo (leapsL W H xs a b) N s k) = (F, Q) := by
                    rw [List.take_add_one, HY.out, visit_append, HST.out]
                    show visit d [(yn : Int)] (F, Q) = _
                    rw [visit_one, Int.toNat_natCast, if_neg (by rw [HV2.out]; omega)]
                  exact ⟨j + 1, g1, k1, nq, cq, by omega, by go_num, rfl, by rw [e]; exact HLEN.out, by rw [e]; exact HQ.out, by rw [e]; exact HF.out, hg1f, hg12, HR.out, HRB.out, HB.out⟩
                case measure => simp [intOf]; omega
            · have e2 : (leapsL W H xs a b xn).take j = leapsL W H xs a b xn := List.take_of_length_le (by have := ROWL.out; omega)
              have HQ := Lib.hid hq; have HF := Lib.hid hfar; have HB := Lib.hid hbw; have HLEN := Lib.hid hlen
              have E2 := Lib.hid e2
              have hkq : k + 1 ≤ nq := by have := (List.getElem?_eq_some_iff.1 hxq).1; omega
              clear hq hfar hbw hlen e2 hxq hrow hrowb
              go_wp2
              go_roundg (64 - (k + 1))
              case measure => omega
              case rel =>
                have e : bfsTo (leapsL W H xs a b) N s (k + 1) = (F, Q) := by
                  rw [bfs_next X0.out, Int.toNat_natCast, DD.out, ← HST.out, E2.out]
                exact ⟨k + 1, g1, k1, nq, cq, hkq, by rw [e]; exact HLEN.out, by omega, by go_num, rfl, by rw [e]; exact HQ.out, by rw [e]; exact HF.out, hg1f, hg12, HB.out⟩
        · have hL : (bfsTo (leapsL W H xs a b) N s k).2.length ≤ k := by have := HN2.out; omega
          have hfe := far_of_end (adj := leapsL W H xs a b) (N := N) (start := (s : Int)) (by omega) (fun c _ x hx => leaps_in HWH.out hx) hL
          rw [hfe] at hfar
          have HF := Lib.hid hfar; have HB := Lib.hid hbw
          clear hL hfe hfar hbw hq hn2
          go_wp2
          go_ret
          exact ⟨fb, rfl, HF.out, B.out.trans (HB.out.mono B.out.size)⟩

end Go.Proofs.YtcfibfbenccimaaGreatDoor

namespace Go.Proofs.YtcfibfbenccimaaGreatDoor
open Go.RowKit

theorem two_N {W H a b : Int} {xs : List Int} (h : (goodB W H xs && leaperB a b) = true) : 1 ≤ W * H ∧ W * H ≤ 64 := by
  simp only [Bool.and_eq_true] at h
  obtain ⟨hW, hH, _, _⟩ := goodB_iff.1 h.1
  exact cells_le hW hH
theorem two_g {W H a b : Int} {xs : List Int} (h : (goodB W H xs && leaperB a b) = true) : goodB W H xs = true := by simp only [Bool.and_eq_true] at h; exact h.1
theorem two_l {W H a b : Int} {xs : List Int} (h : (goodB W H xs && leaperB a b) = true) : leaperB a b = true := by simp only [Bool.and_eq_true] at h; exact h.2
def okFrom (W H : Int) (xs : List Int) (a b q : Int) : Bool := leaperB a b && hasV W H xs q
def leapsFromV (W H : Int) (xs : List Int) (a b q : Int) : List Int := if okFrom W H xs a b q then leapsL W H xs a b q else []
def okTwo (W H : Int) (xs : List Int) (a b : Int) : Bool := leaperB a b && goodB W H xs
def degreesV (W H : Int) (xs : List Int) (a b : Int) : List Int := if okTwo W H xs a b then degL W H xs a b else []

end Go.Proofs.YtcfibfbenccimaaGreatDoor

namespace Go.Proofs.YtcfibfbenccimaaGreatDoor
open Go.RowKit

end Go.Proofs.YtcfibfbenccimaaGreatDoor

namespace Go.Proofs.YtcfibfbenccimaaGreatDoor
open Go.RowKit

def onB (W H : Int) (xs : List Int) (a b : Int) (ps : List Int) : Bool := okTwo W H xs a b && ps.all (hasB W H xs)

theorem onB_onK (W H : Int) (xs : List Int) (a b : Int) (ps : List Int) : onB W H xs a b ps = onK W H xs a b ps := by
  rw [onB, onK, okTwo, twoV, Bool.and_comm (leaperB a b)]
theorem isLeaperOn_any (W H : Int) (A : Option Addr) (n c : Nat) (xs : List Int) (a b : Int) (A2 : Option Addr) (m c2 : Nat) (ps : List Int) (w : World) (ha : Rd w A n xs) (hp : Rd w A2 m ps) :
    Calls Tryz.prog 31 #[brd W H A n c, lpr a b, .slice A2 m c2] w fun e w' => e = .returned (.bool (onB W H xs a b ps)) ∧ Below w.heap.size w w' := by
  rw [onB_onK]; exact isLeaperOnK_any W H A n c xs a b A2 m c2 ps w ha hp

end Go.Proofs.YtcfibfbenccimaaGreatDoor

namespace Go.Proofs.YtcfibfbenccimaaGreatDoor
open Go.RowKit

set_option maxRecDepth 100000 in
set_option maxHeartbeats 2000000 in
theorem onwardOf_any (W H : Int) (A : Option Addr) (n c : Nat) (xs : List Int) (a b : Int) (w : World) (ha : Rd w A n xs) (hg : goodB W H xs = true) (hl : leaperB a b = true) :
    Calls Tryz.prog 51 #[brd W H A n c, lpr a b] w fun e w' => ∃ mb, e = .returned (.map (some mb)) ∧ OnMap w' w.heap.size mb (cellsL W H xs) (leapsL W H xs a b) ∧ Below w.heap.size w w' := by
  have HL := Lib.hid hl
  clear hl
  obtain ⟨hW, hH, _, _⟩ := goodB_iff.1 hg
  have HW := Lib.hid hW; have HN := Lib.hid (cells_le hW hH)
  have HG := Lib.hid hg
  obtain ⟨i0, hi, hz0, hz1, hz2⟩ := info_parts infoI
  have HI := Lib.hid hi; have HZ0 := Lib.hid hz0; have HZ1 := Lib.hid hz1; have HZ2 := Lib.hid hz2
  clear hW hH hg hi hz0 hz1 hz2
  obtain ⟨W2, hW2⟩ : ∃ W2, W2 = ((w.alloc (.cells #[.int .i64 W, .int .i64 H, .slice A n c] 30)).alloc (.cells #[.int .i64 a, .int .i64 b] 32)).alloc (.map #[] 0) := ⟨_, rfl⟩
  have a0 : W2.cell? ⟨w.heap.size, 0, none⟩ = some (.int .i64 W) := by rw [hW2]; go_simp
  have a1 : W2.cell? ⟨w.heap.size, 1, none⟩ = some (.int .i64 H) := by rw [hW2]; go_simp
  have a2 : W2.cell? ⟨w.heap.size, 2, none⟩ = some (.slice A n c) := by rw [hW2]; go_simp
  have l0 : W2.cell? ⟨w.heap.size + 1, 0, none⟩ = some (.int .i64 a) := by rw [hW2]; go_simp
  have l1 : W2.cell? ⟨w.heap.size + 1, 1, none⟩ = some (.int .i64 b) := by rw [hW2]; go_simp
  have hsz : w.heap.size + 3 ≤ W2.heap.size := by rw [hW2]; simp
  have B := Lib.hid (show Below w.heap.size w W2 by rw [hW2]; exact below_new (below_new (below_new (Below.refl _ _) _) _) _)
  have R := Lib.hid (ha.keep B.out)
  have ga : w.heap.size < W2.heap.size := by omega
  have gl : w.heap.size + 1 < W2.heap.size := by omega
  have hmp : MapI Tryz.prog 3 W2 (w.heap.size + 2) 0 (.slice none 0 0) (fun _ => .slice none 0 0) := by
    rw [hW2]
    have := MapI.made Tryz.prog 3 ((w.alloc (.cells #[.int .i64 W, .int .i64 H, .slice A n c] 30)).alloc (.cells #[.int .i64 a, .int .i64 b] 32)) (.slice none 0 0)
    simpa using this
  have MP := Lib.hid hmp
  clear hmp
  have hmm := @run_makeMap Tryz.prog
  go_enter Tryz.func51, Tryz.ntmps51
  go_wp2_with fail
  rw [← hW2]
  obtain ⟨mb, hmb⟩ : ∃ mb, mb = w.heap.size + 1 + 1 := ⟨_, rfl⟩
  rw [show w.heap.size + 2 = mb by omega] at MP
  rw [← hmb]
  have hmb1 : w.heap.size + 2 ≤ mb := by omega
  have hmb2 : mb < W2.heap.size := by omega
  clear hW2 hmm hmb
  refine (cellsThere_any W H A n c xs _ R.out HG.out).mono ?_
  rintro e ws ⟨A1, n1, c1, rfl, hst, hb⟩
  replace a0 := cell_keep a0 ga hb; replace a1 := cell_keep a1 ga hb; replace a2 := cell_keep a2 ga hb; replace l0 := cell_keep l0 gl hb; replace l1 := cell_keep l1 gl hb; replace ga := lt_keep ga hb; replace gl := lt_keep gl hb; replace R := Lib.hid (R.out.keep hb)
  have hB0 := B.out.size
  replace B := Lib.hid (below_next B.out hb)
  have hs1 := hb.size
  have ST := Lib.hid hst.rd
  have SL := Lib.hid hst.len
  have n8 : n1 ≤ 64 := by have := cellsTo_len (W := W) (H := H) (hs := xs) (W * H).toNat; have := hst.len; have := HN.out; unfold cellsL at *; omega
  have hA1 : Hid (∀ y, A1 = some y → mb < y.block) := Lib.hid (fun y hy => by
    rcases hst.form with ⟨h, _⟩ | ⟨g, h, h2, _⟩
    · rw [h] at hy; cases hy
    · rw [h] at hy; injection hy with hy; rw [← hy]; show mb < g; omega)
  have hmlt : mb < ws.heap.size := by omega
  have n9 := hst.rd.2.1
  replace MP := Lib.hid (MP.out.keep hb)
  clear hst hb
  go_wp2
  go_loopw [12] (fun i wr => ∃ (k : Nat) (f : Int → Value), k ≤ n1 ∧ i = .int .i64 k ∧ MapI Tryz.prog 3 wr mb k (.slice none 0 0) f ∧ (∀ x ∈ (cellsL W H xs).take k, RowAt wr w.heap.size mb (f x) (leapsL W H xs a b x)) ∧ ws.grownBy wr (some mb)) (fun i _ => n1 - (intOf i).toNat)
  case atStart => exact ⟨0, _, by omega, rfl, MP.out, by simp, grown_refl _ _⟩
  case round =>
    obtain ⟨k, f, hk, rfl, hm, hrows, hgw⟩ := hrel
    have hBw : Below w.heap.size w wr := B.out.trans (below_of_grown hgw (by omega) (fun g h => by injection h with h; omega))
    have HM := Lib.hid hm; have HR := Lib.hid hrows
    have HGW := Lib.hid hgw
    have hsw := hgw.size
    clear hm hrows
    by_cases hlt : k < n1
    · obtain ⟨bb, oo, x, rfl, hg1, hx, x0⟩ := ST.out.at_ hlt
      have hbm := hA1.out _ rfl
      simp only at hbm
      have HX := Lib.hid hx
      have hin := cellsL_mem.1 (List.mem_of_getElem? hx)
      have HXQ := Lib.hid (hasB_iff.1 hin).1
      have HXR := Lib.hid (range_of HN.out hin)
      replace x0 := hgw.cell x0 (by simp; omega)
      have b0 := hgw.cell a0 (by simp; omega); have b1 := hgw.cell a1 (by simp; omega); have b2 := hgw.cell a2 (by simp; omega); have m0 := hgw.cell l0 (by simp; omega); have m1 := hgw.cell l1 (by simp; omega)
      have RR := Lib.hid (ha.keep hBw)
      have HBW := Lib.hid hBw
      clear hx hin hgw hBw
      go_wp2_with fail
      refine (leapCells_any W H A n c xs a b x _ RR.out HG.out HL.out HXQ.out).mono ?_
      rintro e wv ⟨A3, n3, c3, rfl, hl3, hb⟩
      have hn3 : n3 ≤ 64 := by have := leapsL_len64 (W := W) (H := H) (xs := xs) (a := a) (b := b) (q := x) HN.out; have := hl3.len; omega
      have HL3 := Lib.hid hl3
      replace HM := Lib.hid (HM.out.keep hb)
      replace HR := Lib.hid (fun y hy => (HR.out y hy).keep hb)
      replace HGW := Lib.hid (grown_next HGW.out (grown_of_below hb (some mb)))
      have hsv := hb.size
      clear hl3 hb
      go_wp2_with (at_mapUpdate; refine wpList_update rfl (.tmp 16) (.tmp 17) (.tmp 21) rfl Tryz.underlying3 Tryz.underlying67 rfl HM.out (by omega) x (.slice A3 n3 c3) rfl rfl (wf_small ⟨HXR.out.1, by have := HXR.out.2; omega⟩) ?_; intro w2 hm2 hg2)
      have HM2 := Lib.hid hm2; have HG2 := Lib.hid hg2
      clear hm2 hg2
      go_wp2
      go_roundw
      case rel =>
        refine ⟨k + 1, _, by omega, by go_num, HM2.out, fun y hy => ?_, grown_next HGW.out HG2.out⟩
        rw [List.take_add_one, HX.out] at hy
        rcases List.mem_append.1 hy with hy | hy
        · have hne : y ≠ x := by
            have hp := cellsL_pairwise W H xs
            have hlen : k < (cellsL W H xs).length := by have := SL.out; omega
            rw [← List.take_append_drop k (cellsL W H xs), List.pairwise_append] at hp
            have hxd : x ∈ (cellsL W H xs).drop k := by
              rw [drop_cons_of HX.out]; exact List.mem_cons_self
            have := hp.2.2 y hy x hxd
            omega
          rw [if_neg hne]
          exact (HR.out y hy).other HG2.out
        · simp at hy
          subst hy
          rw [if_pos rfl]
          have hrow : RowAt _ w.heap.size mb (.slice A3 n3 c3) (leapsL W H xs a b y) := ⟨A3, n3, c3, rfl, HL3.out.rd, hn3, fun z hz => by
            rcases HL3.out.form with ⟨h, _⟩ | ⟨g, h, h2, h3, _⟩
            · rw [h] at hz; cases hz
            · rw [h] at hz; injection hz with hz; rw [← hz]; exact ⟨by show w.heap.size ≤ g; omega, h3, by show g ≠ mb; omega⟩⟩
          exact hrow.other HG2.out
      case measure => simp [intOf]; omega
    · have e2 : (cellsL W H xs).take k = cellsL W H xs := List.take_of_length_le (by have := SL.out; omega)
      have HBW := Lib.hid hBw
      have hk64 : k ≤ 64 := by omega
      have HRR := Lib.hid (show OnMap wr w.heap.size mb (cellsL W H xs) (leapsL W H xs a b) from ⟨by omega, k, f, by omega, HM.out, by rw [← e2]; exact HR.out⟩)
      clear e2 hBw hgw
      go_wp2
      go_ret
      exact ⟨mb, rfl, HRR.out, HBW.out⟩


end Go.Proofs.YtcfibfbenccimaaGreatDoor
