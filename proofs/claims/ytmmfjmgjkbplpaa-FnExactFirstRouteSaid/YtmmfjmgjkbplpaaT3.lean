/-
  Contracts: distances from a cell, in the program.
-/
import Derived.Test.YtmmfjmgjkbplpaaT2a
import Derived.Test.YtmmfjmgjkbplpaaQue
import Derived.Test.YtmmfjmgjkbplpaaQ3
import Derived.Deep.MidRow
import Derived.Deep.LoopGhost
namespace Go.Proofs.Ytmmfjmgjkbplpaa
open Go.RowKit

theorem size_setCell' (w : World) (p : Addr) (v : Value) : (w.setCell p v).heap.size = w.heap.size := by simp
theorem cell_keep' {w w' : World} {b i : Nat} {v : Value} (h : w.cell? ⟨b, i, none⟩ = some v) (lt : b < w.heap.size) (hb : Below w.heap.size w w') : w'.cell? ⟨b, i, none⟩ = some v := cell_keep h lt hb
theorem zeros_far : Try.zeroCells64.toList = (List.replicate 144 (0 : Int)).map (Value.int .i64) := by kernel_rfl
theorem infoD : (Try.prog.info? 64).map (·.size) = some 144 := by kernel_rfl
theorem range_of_own {E : TypeId} {w : World} {lo g n c : Nat} {xs : List Int} (h : OwnI E w lo (some ⟨g, 0, none⟩) n c xs) : w.rangeAt g 0 (xs.map (Value.int .i64)) := fun j v hv => by
  rw [List.getElem?_map] at hv
  cases hx : xs[j]? with
  | none => rw [hx] at hv; cases hv
  | some y => rw [hx] at hv; injection hv with hv; rw [← hv, Nat.zero_add]; exact h.cell hx
theorem there_of_own {E : TypeId} {w : World} {lo g n c : Nat} {xs : List Int} (h : OwnI E w lo (some ⟨g, 0, none⟩) n c xs) : w.there g 0 n := fun j hj => by
  have hl := h.len
  have hx : xs[j]? = some xs[j] := List.getElem?_eq_getElem (by omega)
  exact ⟨by rw [Nat.zero_add, h.cell hx]; rfl, h.frozen _⟩
theorem OwnI.setAll {E : TypeId} {lo g n c : Nat} : ∀ (ys : List Int) (o : Nat) {w : World} {xs : List Int}, OwnI E w lo (some ⟨g, 0, none⟩) n c xs → o + ys.length ≤ n →
    OwnI E (w.setCells g o (ys.map (Value.int .i64))) lo (some ⟨g, 0, none⟩) n c (xs.take o ++ ys ++ xs.drop (o + ys.length)) ∧ w.grownBy (w.setCells g o (ys.map (Value.int .i64))) (some g)
  | [], o, w, xs, h, _ => ⟨by simpa [World.setCells] using h, grown_refl _ _⟩
  | y :: ys, o, w, xs, h, ho => by
    have hl := h.len
    simp only [List.length_cons] at ho
    obtain ⟨h1, g1⟩ := h.stored o y
    obtain ⟨h2, g2⟩ := OwnI.setAll ys (o + 1) h1 (by omega)
    refine ⟨?_, grown_next g1 g2⟩
    have e : (xs.set o y).take (o + 1) ++ ys ++ (xs.set o y).drop (o + 1 + ys.length) = xs.take o ++ (y :: ys) ++ xs.drop (o + (ys.length + 1)) := by
      rw [List.take_add_one, List.getElem?_set_self (by omega), List.take_set_of_le (Nat.le_refl _), List.drop_set_of_lt (by omega)]
      simp [show o + 1 + ys.length = o + (ys.length + 1) by omega]
    rw [e] at h2
    exact h2
theorem full_block {E : TypeId} {w : World} {lo g n : Nat} {xs : List Int} (h : OwnI E w lo (some ⟨g, 0, none⟩) n n xs) (_hn : True := trivial) : w.heap[g]? = some (.cells (xs.map (Value.int .i64)).toArray E (0, 0)) := by
  obtain ⟨cur, hg, _, _, _, hcs, ht⟩ := ownI_block h
  rw [hg, ← ht, List.take_of_length_le (by rw [Array.length_toList]; omega)]
theorem OnMap.lookup2 {w w' : World} {lo mb : Nat} {cells : List Int} {adj : Int → List Int} (h : OnMap w lo mb cells adj) (hb : Below w.heap.size w w') {x : Int} (hx : x ∈ cells) (hr : 0 ≤ x ∧ x ≤ 144) :
    ∃ A n c, (Instr.lookup 50 (.map (some mb)) (.int .i64 x) false).run Try.prog w' = .ok (.slice A n c) w' ∧ Rd w A n (adj x) ∧ n ≤ 144 := by
  obtain ⟨_, m, f, _, h2, h3⟩ := h
  obtain ⟨A, n, c, hv, h4, h5, _⟩ := h3 x hx
  exact ⟨A, n, c, by rw [(h2.keep hb).lookup Try.underlying3 Try.underlying50 (zero_ints w') (wf_small hr), hv], h4, by omega⟩

set_option maxRecDepth 100000 in
set_option maxHeartbeats 4000000 in
theorem distancesFrom_any (lo0 mb : Nat) (cells : List Int) (adj : Int → List Int) (s : Nat) (w : World) (hm : OnMap w lo0 mb cells adj) (hs : s < 144) (hsc : (s : Int) ∈ cells) (hcl : ∀ x ∈ cells, 0 ≤ x ∧ x < 144) (hadj : ∀ x, ∀ y ∈ adj x, y ∈ cells) :
    Calls Try.prog 42 #[.map (some mb), .int .i64 (s : Int)] w fun e w' => e = .returned (.agg ((farL adj 144 s).map (Value.int .i64)).toArray) ∧ Below w.heap.size w w' := by
  have HM := Lib.hid hm; have HSC := Lib.hid hsc; have HCL := Lib.hid hcl; have HADJ := Lib.hid hadj
  have HOK := Lib.hid (fun k => bfs_ok (adj := adj) (N := 144) (start := (s : Int)) (by omega) (fun c _ x hx => hcl x (hadj c x hx)) k)
  have HCELL : Hid (∀ k x, x ∈ (bfsTo adj 144 s k).2 → x ∈ cells) := Lib.hid (fun k => bfs_cells hsc hadj k)
  clear hm hsc hcl hadj
  have hs0 : (0 : Int) ≤ (s : Int) := by omega
  have hs1 : (s : Int) < 144 := by omega
  obtain ⟨i0, hi, hz0, hz1, hz2⟩ := info_parts infoI
  have HI := Lib.hid hi; have HZ0 := Lib.hid hz0; have HZ1 := Lib.hid hz1; have HZ2 := Lib.hid hz2
  clear hi hz0 hz1 hz2
  go_enter Try.func42, Try.ntmps42
  go_wp2
  generalize hW2 : (w.alloc (.cells Try.zeroCells64 64)).alloc (.cells Try.zeroCells64 64) = W2
  have hfar : OwnI 64 W2 w.heap.size (some ⟨w.heap.size + 1, 0, none⟩) 144 144 (List.replicate 144 0) := by
    have h := World.ownsRow_lit (base := w.heap.size) (e := 64) (w.alloc (.cells Try.zeroCells64 64)) (Try.zeroCells64 : Array Value) 144 (size := 1) (by simp) (by decide) (by kernel_rfl)
    rw [hW2, zeros_far] at h
    have e : (w.alloc (.cells Try.zeroCells64 64)).heap.size = w.heap.size + 1 := by simp
    rw [e] at h
    exact h
  have hres : OwnI 64 W2 w.heap.size (some ⟨w.heap.size, 0, none⟩) 144 144 (List.replicate 144 0) := by
    have h := World.ownsRow_lit (base := w.heap.size) (e := 64) w (Try.zeroCells64 : Array Value) 144 (size := 1) (Nat.le_refl _) (by decide) (by kernel_rfl)
    rw [zeros_far] at h
    have h2 := World.ownsRow.alloc h (.cells Try.zeroCells64 64)
    rw [hW2] at h2
    exact h2
  have hB2 : Below w.heap.size w W2 := by rw [← hW2]; exact below_new (below_new (Below.refl _ _) _) _
  have hsz2 : w.heap.size + 2 ≤ W2.heap.size := by rw [← hW2]; simp
  obtain ⟨fb, hfb⟩ : ∃ fb, fb = w.heap.size + 1 := ⟨_, rfl⟩
  rw [← hfb] at hfar ⊢
  have hfb1 : w.heap.size < fb := by omega
  have hfb2 : fb < W2.heap.size := by omega
  have FAR := Lib.hid hfar; have RES := Lib.hid hres; have B := Lib.hid hB2
  clear hW2 hfar hres hB2 hfb
  go_loopw [11] (fun i wr => ∃ k : Nat, k ≤ 144 ∧ i = .int .i64 k ∧ OwnI 64 wr w.heap.size (some ⟨fb, 0, none⟩) 144 144 (List.replicate k (-1) ++ List.replicate (144 - k) 0) ∧ W2.grownBy wr (some fb)) (fun i _ => 144 - (intOf i).toNat)
  case atStart => exact ⟨0, by omega, rfl, FAR.out, grown_refl _ _⟩
  case round =>
    obtain ⟨k, hk, rfl, hown, hgw⟩ := hrel
    by_cases hlt : k < 144
    · have hx : (List.replicate k (-1 : Int) ++ List.replicate (144 - k) 0)[k]? = some 0 := by
        rw [List.getElem?_append_right (by simp), List.length_replicate, Nat.sub_self, List.getElem?_replicate, if_pos (by omega)]
      have c0 := hown.cell hx
      have f0 := hown.frozen k
      have hi0 : (0 : Int) ≤ (k : Int) := by omega
      have hi1 : (k : Int) < 144 := by omega
      obtain ⟨o1, g1⟩ := hown.stored k (-1)
      rw [minus_set hlt] at o1
      have O1 := Lib.hid o1; have G1 := Lib.hid (grown_next hgw g1)
      clear o1 g1 hgw hown hx
      go_wp2
      go_roundw
      case rel => exact ⟨k + 1, by omega, by go_num, O1.out, G1.out⟩
      case measure => simp [intOf]; omega
    · obtain rfl : k = 144 := by omega
      have hown2 : OwnI 64 wr w.heap.size (some ⟨fb, 0, none⟩) 144 144 (List.replicate 144 (-1)) := by simpa using hown
      have hx : (List.replicate 144 (-1 : Int))[s]? = some (-1) := by rw [List.getElem?_replicate, if_pos hs]
      have c0 := hown2.cell hx
      have f0 := hown2.frozen s
      obtain ⟨o1, g1⟩ := hown2.stored s 0
      have hg2 := grown_next hgw g1
      have RES2 := Lib.hid (RES.out.other hg2 (fun a ha => by injection ha with ha; rw [← ha]; simp; omega))
      have B2 := Lib.hid (B.out.trans (below_of_grown hg2 (by omega) (fun g h => by injection h with h; omega)))
      have hszw := hgw.size
      have O1 := Lib.hid o1
      clear o1 g1 hgw hown hown2 hx hg2
      go_wp2
      have hqrow : OwnI 3 ((wr.setCell ⟨fb, s, none⟩ (.int .i64 0)).alloc (.cells #[.int .i64 (s : Int)] 3)) w.heap.size (some ⟨wr.heap.size, 0, none⟩) 1 1 [(s : Int)] := by
        have h := World.ownsRow_lit (base := w.heap.size) (e := 3) (wr.setCell ⟨fb, s, none⟩ (.int .i64 0)) (#[.int .i64 (s : Int)] : Array Value) 1 (size := 1) (by simp; omega) (by decide) rfl
        rw [size_setCell'] at h
        exact h
      have Q4 := Lib.hid (QAt.start hqrow)
      have F4 := Lib.hid (O1.out.alloc (.cells #[.int .i64 (s : Int)] 3))
      have R4 := Lib.hid (RES2.out.alloc (.cells #[.int .i64 (s : Int)] 3))
      have B4 : Hid (Below w.heap.size w ((wr.setCell ⟨fb, s, none⟩ (.int .i64 0)).alloc (.cells #[.int .i64 (s : Int)] 3))) := Lib.hid (B2.out.alloc (by simp; omega) _)
      generalize (wr.setCell ⟨fb, s, none⟩ (.int .i64 0)).alloc (.cells #[.int .i64 (s : Int)] 3) = W4 at *
      have hqf : wr.heap.size ≠ fb := by omega
      have hqr : wr.heap.size ≠ w.heap.size := by omega
      clear hqrow O1 RES2 B2 c0 f0 FAR RES B
      go_loopg [7] 144 (fun gm s7 wr => ∃ (k g k0 n c : Nat), k + n = (bfsTo adj 144 s k).2.length ∧ 144 - k ≤ gm ∧ s7 = .slice (some ⟨g, k0, none⟩) n c ∧ QAt 3 wr w.heap.size g k0 n c ((bfsTo adj 144 s k).2.drop k) ∧ OwnI 64 wr w.heap.size (some ⟨fb, 0, none⟩) 144 144 (bfsTo adj 144 s k).1 ∧ g ≠ fb ∧ g ≠ w.heap.size ∧ OwnI 64 wr w.heap.size (some ⟨w.heap.size, 0, none⟩) 144 144 (List.replicate 144 0) ∧ Below w.heap.size w wr)
      case atStart => exact ⟨0, _, 0, 1, 1, rfl, by omega, rfl, Q4.out, by simpa [bfsTo] using F4.out, hqf, hqr, R4.out, B4.out⟩
      case round =>
        clear Q4 F4 R4 B4 hqf hqr
        rename_i wr0 _ _
        obtain ⟨k, g, k0, n, c, hkn, hgm, rfl, hq, hfar, hgf, hgr, hres, hbw⟩ := hrel
        have hQ64 := nodup_len (HOK.out k).nodup (HOK.out k).range
        have hqle := hq.le
        by_cases hn0 : 0 < n
        · obtain ⟨x, hx⟩ : ∃ x, (bfsTo adj 144 s k).2[k]? = some x := ⟨_, List.getElem?_eq_getElem (show k < (bfsTo adj 144 s k).2.length by omega)⟩
          have hdr := drop_cons_of hx
          have hxc := HCELL.out k x (List.mem_of_getElem? hx)
          have hxr := HCL.out x hxc
          obtain ⟨xn, rfl⟩ : ∃ xn : Nat, x = (xn : Int) := ⟨x.toNat, by omega⟩
          have hxn : xn < 144 := by omega
          have hx0 : (0 : Int) ≤ (xn : Int) := by omega
          have hx1 : (xn : Int) < 144 := by omega
          obtain ⟨d, hd1, hd2, hd3, hd4⟩ := (HOK.out k).at_ hxn
          have hd0 : 0 ≤ d := by have := (HOK.out k).seen _ (List.mem_of_getElem? hx); rw [Int.toNat_natCast, hd2] at this; exact this
          have hd5 : d ≤ 144 := by omega
          have DD := Lib.hid hd2
          rw [hdr] at hq
          have c0 := hq.cell (j := 0) rfl
          simp only [Nat.add_zero] at c0
          obtain ⟨A2, n2, c2, hlook, hrow, hn2⟩ := HM.out.lookup2 hbw hxc (by omega)
          have ROW := Lib.hid hrow
          have ROWL := Lib.hid hrow.1
          have n29 := hrow.2.1
          have X0 := Lib.hid hx
          have FK := Lib.hid hfar; have RK := Lib.hid hres; have BK := Lib.hid hbw
          obtain ⟨m, rfl⟩ : ∃ m, n = m + 1 := ⟨n - 1, by omega⟩
          obtain ⟨e, rfl⟩ : ∃ e, c = e + 1 := ⟨c - 1, by omega⟩
          have HKN := Lib.hid hkn
          have hk63 : k + 1 ≤ (bfsTo adj 144 s k).2.length := by omega
          clear hx hdr hxc hxr hd1 hd2 hrow hfar hres hbw hkn
          by_cases he : e = 0
          · subst he
            obtain rfl : m = 0 := by omega
            have hlast : (bfsTo adj 144 s k).2.drop (k + 1) = [] := List.drop_eq_nil_of_le (by have := HKN.out; omega)
            rw [hlast] at hq
            have QP : Hid (QAt 3 wr w.heap.size g k0 0 0 ((bfsTo adj 144 s k).2.drop (k + 1))) := Lib.hid (by rw [hlast]; exact hq.pop_last)
            clear hlast hq
            go_wp2
            clear c0 hlook
            go_loopw [7, 33] (fun s7 s33 wx => ∃ (j g1 k1 nq cq : Nat), j ≤ n2 ∧ s33 = .int .i64 j ∧ s7 = .slice (some ⟨g1, k1, none⟩) nq cq ∧ QAt 3 wx w.heap.size g1 k1 nq cq ((visit d ((adj xn).take j) (bfsTo adj 144 s k)).2.drop (k + 1)) ∧ k + 1 + nq = (visit d ((adj xn).take j) (bfsTo adj 144 s k)).2.length ∧ OwnI 64 wx w.heap.size (some ⟨fb, 0, none⟩) 144 144 (visit d ((adj xn).take j) (bfsTo adj 144 s k)).1 ∧ g1 ≠ fb ∧ g1 ≠ w.heap.size ∧ OwnI 64 wx w.heap.size (some ⟨w.heap.size, 0, none⟩) 144 144 (List.replicate 144 0) ∧ Below w.heap.size w wx ∧ wr.heap.size ≤ wx.heap.size) (fun _ s33 _ => n2 - (intOf s33).toNat)
            case atStart => exact ⟨0, g, k0, 0, 0, Nat.zero_le _, rfl, rfl, by rw [List.take_zero]; exact QP.out, by rw [List.take_zero]; show _ = (bfsTo adj 144 s k).2.length; have := HKN.out; omega, by rw [List.take_zero]; exact FK.out, hgf, hgr, RK.out, BK.out, Nat.le_refl _⟩
            case round =>
              obtain ⟨j, g1, k1, nq, cq, hj, rfl, rfl, hq, hlen, hfar, hg1f, hg1r, hres, hbw, hszx⟩ := hrel
              have OKV : Hid (BfsOk 144 ((k : Int) + 1) (visit d ((adj xn).take j) (bfsTo adj 144 s k)).1 (visit d ((adj xn).take j) (bfsTo adj 144 s k)).2) := Lib.hid (visit_ok (d := d) ⟨by omega, by omega⟩ _ _ _ (fun z hz => HCL.out z (HADJ.out _ z (List.mem_of_mem_take hz))) ((HOK.out k).mono (by omega)))
              have hQ64 := nodup_len OKV.out.nodup OKV.out.range
              have DK : Hid ((visit d ((adj xn).take j) (bfsTo adj 144 s k)).1.getD xn 0 = d) := Lib.hid ((visit_keeps ((adj xn).take j) _ _ (by rw [DD.out]; exact hd0)).trans DD.out)
              obtain ⟨st, hst⟩ : ∃ st, visit d ((adj xn).take j) (bfsTo adj 144 s k) = st := ⟨_, rfl⟩
              rw [hst] at hq hlen hfar hQ64 OKV DK
              have HST := Lib.hid hst
              clear hst
              obtain ⟨F, Q⟩ := st
              simp only at hq hlen hfar hQ64
              by_cases hjl : j < n2
              · obtain ⟨b2, o2, y, rfl, hb2, hy, y0⟩ := ROW.out.at_ hjl
                replace y0 := cell_keep' y0 hb2 hbw
                have hyc := HADJ.out _ y (List.mem_of_getElem? hy)
                have hyr := HCL.out y hyc
                obtain ⟨yn, rfl⟩ : ∃ yn : Nat, y = (yn : Int) := ⟨y.toNat, by omega⟩
                have hyn : yn < 144 := by omega
                have hy0 : (0 : Int) ≤ (yn : Int) := by omega
                have hy1 : (yn : Int) < 144 := by omega
                obtain ⟨v, hv1, hv2, hv3, hv4⟩ := OKV.out.at_ hyn
                obtain ⟨dv, hdv1, hdv2, _, _⟩ := OKV.out.at_ hxn
                have hdd : dv = d := by have := DK.out; simp only at this hdv2; omega
                rw [hdd] at hdv1
                simp only at hv1 hdv1 hv2
                have cy := hfar.cell hv1
                have cd := hfar.cell hdv1
                have fy := hfar.frozen yn
                have HY := Lib.hid hy; have HV2 := Lib.hid hv2
                have HQ := Lib.hid hq; have HF := Lib.hid hfar; have HR := Lib.hid hres; have HB := Lib.hid hbw
                have hbsz := hbw.size
                have hnq : nq ≤ 144 := by omega
                have HLEN := Lib.hid hlen
                clear hy hv1 hdv1 hv2 hq hfar hres hbw hlen hdd hdv2
                by_cases hneg : v = -1
                · subst hneg
                  obtain ⟨o1, g2⟩ := HF.out.stored yn (d + 1)
                  have OF := Lib.hid o1; have GF := Lib.hid g2
                  have HQ2 := Lib.hid (HQ.out.other g2 (by simp; omega))
                  have HR2 := Lib.hid (HR.out.other g2 (fun a ha => by injection ha with ha; rw [← ha]; simp; omega))
                  have HB2 := Lib.hid (HB.out.trans (below_of_grown g2 (by omega) (fun g h => by injection h with h; omega)))
                  clear o1 g2
                  go_wp2_with (at_builtin; refine wpList_appQ rfl (.tmp 47) (.tmp 49) 22 rfl i0 Try.underlying22 HI.out HZ0.out HZ1.out HZ2.out (yn : Int) rfl HQ2.out (by rw [size_setCell']; rfl) (by omega) (by rw [size_setCell']; omega) ?_; intro g3 k3 c3 w3 hq3 hg3 hor)
                  have hgl := HQ2.out.lt
                  have hfblt : fb < wr.heap.size := by rcases HF.out.some_ (k := 0) (by omega) with ⟨g9, h9, _, h8⟩; injection h9 with h9; injection h9 with h9; omega
                  rw [size_setCell'] at hor
                  have HQ3 := Lib.hid hq3
                  have OF3 := Lib.hid (OF.out.other hg3 (fun a ha => by injection ha with ha; rw [← ha]; simp; omega))
                  have HR3 := Lib.hid (HR2.out.other hg3 (fun a ha => by injection ha with ha; rw [← ha]; simp; omega))
                  have HB3 := Lib.hid (HB2.out.trans (below_of_grown hg3 (by rw [size_setCell']; omega) (fun g h => by injection h with h; omega)))
                  have hsz3 := hg3.size
                  rw [size_setCell'] at hsz3
                  have hg3f : g3 ≠ fb := by omega
                  have hg3r : g3 ≠ w.heap.size := by omega
                  clear hq3 hg3 hor
                  go_wp2
                  go_roundw
                  case rel =>
                    have e : visit d ((adj xn).take (j + 1)) (bfsTo adj 144 s k) = (F.set yn (d + 1), Q ++ [(yn : Int)]) := by
                      rw [List.take_add_one, HY.out, visit_append, HST.out]
                      show visit d [(yn : Int)] (F, Q) = _
                      rw [visit_one, Int.toNat_natCast, if_pos (by rw [HV2.out]; decide)]
                    exact ⟨_, _, _, ⟨j + 1, by omega, rfl, g3, k3, nq + 1, c3, rfl, by rw [e]; show QAt _ _ _ _ _ _ _ ((Q ++ [(yn : Int)]).drop (k + 1)); rw [List.drop_append_of_le_length (by have := HLEN.out; omega)]; exact HQ3.out, by rw [e]; show _ = (Q ++ [(yn : Int)]).length; rw [List.length_append]; have := HLEN.out; simp; omega, by rw [e]; exact OF3.out, hg3f, hg3r, HR3.out, HB3.out, by omega⟩, rfl, rfl, by go_num⟩
                  case measure => simp [intOf]; omega
                · have hne : (v == -1) = false := by simpa using hneg
                  go_wp2
                  go_roundw
                  case rel =>
                    have e : visit d ((adj xn).take (j + 1)) (bfsTo adj 144 s k) = (F, Q) := by
                      rw [List.take_add_one, HY.out, visit_append, HST.out]
                      show visit d [(yn : Int)] (F, Q) = _
                      rw [visit_one, Int.toNat_natCast, if_neg (by rw [HV2.out]; omega)]
                    exact ⟨j + 1, g1, k1, nq, cq, by omega, by go_num, rfl, by rw [e]; exact HQ.out, by rw [e]; exact HLEN.out, by rw [e]; exact HF.out, hg1f, hg1r, HR.out, HB.out, hszx⟩
                  case measure => simp [intOf]; omega
              · have e2 : (adj xn).take j = adj xn := List.take_of_length_le (by have := ROWL.out; omega)
                have HQ := Lib.hid hq; have HF := Lib.hid hfar; have HR := Lib.hid hres; have HB := Lib.hid hbw; have HLEN := Lib.hid hlen
                have E2 := Lib.hid e2
                clear hq hfar hres hbw hlen e2
                go_wp2
                go_roundg (144 - (k + 1))
                case measure => omega
                case rel =>
                  have e : bfsTo adj 144 s (k + 1) = (F, Q) := by
                    rw [bfs_next X0.out, Int.toNat_natCast, DD.out, ← HST.out, E2.out]
                  exact ⟨k + 1, g1, k1, nq, cq, by rw [e]; exact HLEN.out, by omega, rfl, by rw [e]; exact HQ.out, by rw [e]; exact HF.out, hg1f, hg1r, HR.out, HB.out⟩
          · have QP : Hid (QAt 3 wr w.heap.size g (k0 + 1) m e ((bfsTo adj 144 s k).2.drop (k + 1))) := Lib.hid hq.pop
            clear hq
            have he0 : 0 < e := by omega
            have he1 : (0 : Int) < (e : Int) := by omega
            go_wp2
            clear c0 hlook
            go_loopw [7, 33] (fun s7 s33 wx => ∃ (j g1 k1 nq cq : Nat), j ≤ n2 ∧ s33 = .int .i64 j ∧ s7 = .slice (some ⟨g1, k1, none⟩) nq cq ∧ QAt 3 wx w.heap.size g1 k1 nq cq ((visit d ((adj xn).take j) (bfsTo adj 144 s k)).2.drop (k + 1)) ∧ k + 1 + nq = (visit d ((adj xn).take j) (bfsTo adj 144 s k)).2.length ∧ OwnI 64 wx w.heap.size (some ⟨fb, 0, none⟩) 144 144 (visit d ((adj xn).take j) (bfsTo adj 144 s k)).1 ∧ g1 ≠ fb ∧ g1 ≠ w.heap.size ∧ OwnI 64 wx w.heap.size (some ⟨w.heap.size, 0, none⟩) 144 144 (List.replicate 144 0) ∧ Below w.heap.size w wx ∧ wr.heap.size ≤ wx.heap.size) (fun _ s33 _ => n2 - (intOf s33).toNat)
            case atStart => exact ⟨0, g, (k0 + 1), m, e, Nat.zero_le _, rfl, rfl, by rw [List.take_zero]; exact QP.out, by rw [List.take_zero]; show _ = (bfsTo adj 144 s k).2.length; have := HKN.out; omega, by rw [List.take_zero]; exact FK.out, hgf, hgr, RK.out, BK.out, Nat.le_refl _⟩
            case round =>
              obtain ⟨j, g1, k1, nq, cq, hj, rfl, rfl, hq, hlen, hfar, hg1f, hg1r, hres, hbw, hszx⟩ := hrel
              have OKV : Hid (BfsOk 144 ((k : Int) + 1) (visit d ((adj xn).take j) (bfsTo adj 144 s k)).1 (visit d ((adj xn).take j) (bfsTo adj 144 s k)).2) := Lib.hid (visit_ok (d := d) ⟨by omega, by omega⟩ _ _ _ (fun z hz => HCL.out z (HADJ.out _ z (List.mem_of_mem_take hz))) ((HOK.out k).mono (by omega)))
              have hQ64 := nodup_len OKV.out.nodup OKV.out.range
              have DK : Hid ((visit d ((adj xn).take j) (bfsTo adj 144 s k)).1.getD xn 0 = d) := Lib.hid ((visit_keeps ((adj xn).take j) _ _ (by rw [DD.out]; exact hd0)).trans DD.out)
              obtain ⟨st, hst⟩ : ∃ st, visit d ((adj xn).take j) (bfsTo adj 144 s k) = st := ⟨_, rfl⟩
              rw [hst] at hq hlen hfar hQ64 OKV DK
              have HST := Lib.hid hst
              clear hst
              obtain ⟨F, Q⟩ := st
              simp only at hq hlen hfar hQ64
              by_cases hjl : j < n2
              · obtain ⟨b2, o2, y, rfl, hb2, hy, y0⟩ := ROW.out.at_ hjl
                replace y0 := cell_keep' y0 hb2 hbw
                have hyc := HADJ.out _ y (List.mem_of_getElem? hy)
                have hyr := HCL.out y hyc
                obtain ⟨yn, rfl⟩ : ∃ yn : Nat, y = (yn : Int) := ⟨y.toNat, by omega⟩
                have hyn : yn < 144 := by omega
                have hy0 : (0 : Int) ≤ (yn : Int) := by omega
                have hy1 : (yn : Int) < 144 := by omega
                obtain ⟨v, hv1, hv2, hv3, hv4⟩ := OKV.out.at_ hyn
                obtain ⟨dv, hdv1, hdv2, _, _⟩ := OKV.out.at_ hxn
                have hdd : dv = d := by have := DK.out; simp only at this hdv2; omega
                rw [hdd] at hdv1
                simp only at hv1 hdv1 hv2
                have cy := hfar.cell hv1
                have cd := hfar.cell hdv1
                have fy := hfar.frozen yn
                have HY := Lib.hid hy; have HV2 := Lib.hid hv2
                have HQ := Lib.hid hq; have HF := Lib.hid hfar; have HR := Lib.hid hres; have HB := Lib.hid hbw
                have hbsz := hbw.size
                have hnq : nq ≤ 144 := by omega
                have HLEN := Lib.hid hlen
                clear hy hv1 hdv1 hv2 hq hfar hres hbw hlen hdd hdv2
                by_cases hneg : v = -1
                · subst hneg
                  obtain ⟨o1, g2⟩ := HF.out.stored yn (d + 1)
                  have OF := Lib.hid o1; have GF := Lib.hid g2
                  have HQ2 := Lib.hid (HQ.out.other g2 (by simp; omega))
                  have HR2 := Lib.hid (HR.out.other g2 (fun a ha => by injection ha with ha; rw [← ha]; simp; omega))
                  have HB2 := Lib.hid (HB.out.trans (below_of_grown g2 (by omega) (fun g h => by injection h with h; omega)))
                  clear o1 g2
                  go_wp2_with (at_builtin; refine wpList_appQ rfl (.tmp 47) (.tmp 49) 22 rfl i0 Try.underlying22 HI.out HZ0.out HZ1.out HZ2.out (yn : Int) rfl HQ2.out (by rw [size_setCell']; rfl) (by omega) (by rw [size_setCell']; omega) ?_; intro g3 k3 c3 w3 hq3 hg3 hor)
                  have hgl := HQ2.out.lt
                  have hfblt : fb < wr.heap.size := by rcases HF.out.some_ (k := 0) (by omega) with ⟨g9, h9, _, h8⟩; injection h9 with h9; injection h9 with h9; omega
                  rw [size_setCell'] at hor
                  have HQ3 := Lib.hid hq3
                  have OF3 := Lib.hid (OF.out.other hg3 (fun a ha => by injection ha with ha; rw [← ha]; simp; omega))
                  have HR3 := Lib.hid (HR2.out.other hg3 (fun a ha => by injection ha with ha; rw [← ha]; simp; omega))
                  have HB3 := Lib.hid (HB2.out.trans (below_of_grown hg3 (by rw [size_setCell']; omega) (fun g h => by injection h with h; omega)))
                  have hsz3 := hg3.size
                  rw [size_setCell'] at hsz3
                  have hg3f : g3 ≠ fb := by omega
                  have hg3r : g3 ≠ w.heap.size := by omega
                  clear hq3 hg3 hor
                  go_wp2
                  go_roundw
                  case rel =>
                    have e : visit d ((adj xn).take (j + 1)) (bfsTo adj 144 s k) = (F.set yn (d + 1), Q ++ [(yn : Int)]) := by
                      rw [List.take_add_one, HY.out, visit_append, HST.out]
                      show visit d [(yn : Int)] (F, Q) = _
                      rw [visit_one, Int.toNat_natCast, if_pos (by rw [HV2.out]; decide)]
                    exact ⟨_, _, _, ⟨j + 1, by omega, rfl, g3, k3, nq + 1, c3, rfl, by rw [e]; show QAt _ _ _ _ _ _ _ ((Q ++ [(yn : Int)]).drop (k + 1)); rw [List.drop_append_of_le_length (by have := HLEN.out; omega)]; exact HQ3.out, by rw [e]; show _ = (Q ++ [(yn : Int)]).length; rw [List.length_append]; have := HLEN.out; simp; omega, by rw [e]; exact OF3.out, hg3f, hg3r, HR3.out, HB3.out, by omega⟩, rfl, rfl, by go_num⟩
                  case measure => simp [intOf]; omega
                · have hne : (v == -1) = false := by simpa using hneg
                  go_wp2
                  go_roundw
                  case rel =>
                    have e : visit d ((adj xn).take (j + 1)) (bfsTo adj 144 s k) = (F, Q) := by
                      rw [List.take_add_one, HY.out, visit_append, HST.out]
                      show visit d [(yn : Int)] (F, Q) = _
                      rw [visit_one, Int.toNat_natCast, if_neg (by rw [HV2.out]; omega)]
                    exact ⟨j + 1, g1, k1, nq, cq, by omega, by go_num, rfl, by rw [e]; exact HQ.out, by rw [e]; exact HLEN.out, by rw [e]; exact HF.out, hg1f, hg1r, HR.out, HB.out, hszx⟩
                  case measure => simp [intOf]; omega
              · have e2 : (adj xn).take j = adj xn := List.take_of_length_le (by have := ROWL.out; omega)
                have HQ := Lib.hid hq; have HF := Lib.hid hfar; have HR := Lib.hid hres; have HB := Lib.hid hbw; have HLEN := Lib.hid hlen
                have E2 := Lib.hid e2
                clear hq hfar hres hbw hlen e2
                go_wp2
                go_roundg (144 - (k + 1))
                case measure => omega
                case rel =>
                  have e : bfsTo adj 144 s (k + 1) = (F, Q) := by
                    rw [bfs_next X0.out, Int.toNat_natCast, DD.out, ← HST.out, E2.out]
                  exact ⟨k + 1, g1, k1, nq, cq, by rw [e]; exact HLEN.out, by omega, rfl, by rw [e]; exact HQ.out, by rw [e]; exact HF.out, hg1f, hg1r, HR.out, HB.out⟩
        · obtain rfl : n = 0 := by omega
          have hL : (bfsTo adj 144 s k).2.length ≤ k := by omega
          have hfe := far_of_end (adj := adj) (N := 144) (start := (s : Int)) (by omega) (fun c _ x hx => HCL.out x (HADJ.out c x hx)) hL
          rw [hfe] at hfar
          have hl64 : (farL adj 144 s).length = 144 := by rw [← hfe]; exact (HOK.out k).len
          have hrg : wr.rangeAt fb 0 ((farL adj 144 s).map (Value.int .i64)) := range_of_own hfar
          have hth : wr.there w.heap.size 0 ((farL adj 144 s).map (Value.int .i64)).toArray.size := by
            have h : ((farL adj 144 s).map (Value.int .i64)).toArray.size = 144 := by simp [hl64]
            rw [h]; exact there_of_own hres
          obtain ⟨oz, gz⟩ := OwnI.setAll (farL adj 144 s) 0 hres (by omega)
          rw [show (List.replicate 144 (0 : Int)).take 0 ++ farL adj 144 s ++ (List.replicate 144 (0 : Int)).drop (0 + (farL adj 144 s).length) = farL adj 144 s by simp [hl64]] at oz
          have hblk := full_block oz
          have hin : (Try.prog.info? 64).map (·.size) = some ((farL adj 144 s).map (Value.int .i64)).length := infoD.trans (by rw [List.length_map, hl64])
          have hin2 : (Try.prog.info? 64).map (·.size) = some ((farL adj 144 s).map (Value.int .i64)).toArray.size := infoD.trans (by simp [hl64])
          have hone : ((farL adj 144 s).map (Value.int .i64)).toArray.all (·.oneCell') = true := all_oneCell_toArray (fun v hv => by obtain ⟨y, _, rfl⟩ := List.mem_map.1 hv; rfl)
          have HRG := Lib.hid hrg; have HTH := Lib.hid hth; have HIN := Lib.hid hin; have HIN2 := Lib.hid hin2; have HONE := Lib.hid hone
          have HBLK := Lib.hid hblk; have GZ := Lib.hid gz; have HB := Lib.hid hbw
          have hbsz := hbw.size
          clear hL hfe hfar hl64 hrg hth oz gz hblk hin hin2 hone hbw hres hq hkn hQ64
          obtain ⟨L, hL⟩ : ∃ L, L = (farL adj 144 s).map (Value.int .i64) := ⟨_, rfl⟩
          rw [← hL] at HRG HTH HIN HIN2 HONE HBLK GZ
          have HL := Lib.hid hL
          clear hL
          go_wp2_with (first | (refine wpList_load_mid rfl 64 (.tmp 5) rfl fb 0 rfl L _ HRG.out Try.underlying64 rfl HIN.out ?_) | (refine wpList_store_mid rfl 64 (.tmp 4) (.tmp 52) rfl w.heap.size 0 L.toArray rfl rfl HTH.out HIN2.out HONE.out ?_))
          exact bodyPost_ret (v := .agg L.toArray) (results_cell_row Try.results42 _ _ w.heap.size 64 L.toArray (0, 0) _ rfl HBLK.out Try.underlying64 rfl HIN2.out) rfl ⟨by rw [HL.out], HB.out.trans (below_of_grown GZ.out hbsz (fun g h => by injection h with h; omega))⟩

end Go.Proofs.Ytmmfjmgjkbplpaa
