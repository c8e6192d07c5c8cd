/-
  GuardedBy: the model's cells that are guarded.
  GuardedBy: what the law compares.
-/
import Derived.Test.YtjplcnbifcpebaaDoorD7
namespace Go.Proofs.YtjplcnbifcpebaaDoor
open Go.RowKit

def guardB (W a b : Int) (ps : List Int) (x : Int) (j : Nat) : Bool := ps.contains x || (ps.take j).any fun f => leapB W a b f x
theorem guardB_succ {W a b x y : Int} {ps : List Int} {j : Nat} (hy : ps[j]? = some y) : guardB W a b ps x (j + 1) = (guardB W a b ps x j || leapB W a b y x) := by
  rw [guardB, guardB, List.take_add_one, hy, List.any_append, Bool.or_assoc]
  simp
theorem guardB_end {W a b x : Int} {ps : List Int} {m : Nat} (h : ps.length ≤ m) : guardB W a b ps x m = (ps.contains x || ps.any fun f => leapB W a b f x) := by rw [guardB, List.take_of_length_le h]

set_option maxRecDepth 100000 in
set_option maxHeartbeats 2000000 in
theorem guGuarded_any (W H : Int) (A : Option Addr) (n c : Nat) (xs : List Int) (a b : Int) (A2 : Option Addr) (m c2 : Nat) (ps : List Int) (w : World) (ha : Rd w A n xs) (hp : Rd w A2 m ps) (hg : goodB W H xs = true) (hps : ∀ x ∈ ps, hasB W H xs x = true) :
    Calls Tryd.prog 23 #[brd W H A n c, lpr a b, .slice A2 m c2] w fun e w' => ∃ A' n' c', e = .returned (.slice A' n' c') ∧ OwnI 3 w' w.heap.size A' n' c' (guardL W H xs a b ps) ∧ Below w.heap.size w w' := by
  obtain ⟨hW, hH, _, _⟩ := goodB_iff.1 hg
  have HN := Lib.hid (cells_le hW hH)
  have HW := Lib.hid hW
  have HPS := Lib.hid hps
  have HPL := Lib.hid hp.1
  have m9 := hp.2.1
  obtain ⟨i0, hi, hz0, hz1, hz2⟩ := info_parts infoI
  have HI := Lib.hid hi; have HZ0 := Lib.hid hz0; have HZ1 := Lib.hid hz1; have HZ2 := Lib.hid hz2
  clear hW hH hg hps hi hz0 hz1 hz2
  go_enter Tryd.func23, Tryd.ntmps23
  obtain ⟨W1, hW1⟩ : ∃ W1, W1 = (w.alloc (.cells #[.int .i64 W, .int .i64 H, .slice A n c] 30)).alloc (.cells #[.int .i64 a, .int .i64 b] 32) := ⟨_, rfl⟩
  have B := Lib.hid (show Below w.heap.size w W1 by rw [hW1]; exact (below_new (Below.refl _ _) _).alloc (by simp) _)
  have a0 : W1.cell? ⟨w.heap.size, 0, none⟩ = some (.int .i64 W) := by rw [hW1]; go_simp
  have a1 : W1.cell? ⟨w.heap.size, 1, none⟩ = some (.int .i64 H) := by rw [hW1]; go_simp
  have a2 : W1.cell? ⟨w.heap.size, 2, none⟩ = some (.slice A n c) := by rw [hW1]; go_simp
  have l0 : W1.cell? ⟨w.heap.size + 1, 0, none⟩ = some (.int .i64 a) := by rw [hW1]; go_simp
  have l1 : W1.cell? ⟨w.heap.size + 1, 1, none⟩ = some (.int .i64 b) := by rw [hW1]; go_simp
  have ga : w.heap.size < W1.heap.size := by rw [hW1]; simp; omega
  have gl : w.heap.size + 1 < W1.heap.size := by rw [hW1]; simp
  have R := Lib.hid (ha.keep B.out); have RP := Lib.hid (hp.keep B.out)
  clear ha hp
  go_wp2_with fail
  rw [← hW1]
  clear hW1
  refine (boCells_any W H A n c xs _ R.out HN.out).mono ?_
  rintro e ws ⟨A1, n1, c1, rfl, hst, hb⟩
  replace a0 := cell_keep a0 ga hb; replace a1 := cell_keep a1 ga hb; replace a2 := cell_keep a2 ga hb; replace l0 := cell_keep l0 gl hb; replace l1 := cell_keep l1 gl hb; replace ga := lt_keep ga hb; replace gl := lt_keep gl hb; replace R := Lib.hid (R.out.keep hb); replace RP := Lib.hid (RP.out.keep hb)
  have hB0 := B.out.size
  replace B := Lib.hid (below_next B.out hb)
  have hs1 := hb.size
  have ST := Lib.hid hst.rd
  have SL := Lib.hid hst.len
  have n8 : n1 ≤ 64 := by have := cellsTo_len (W := W) (H := H) (hs := xs) (W * H).toNat; have := hst.len; have := HN.out; unfold cellsL at *; omega
  have n9 := hst.rd.2.1
  clear hst hb
  go_wp2
  go_loopw [7, 16] (fun v i wr => ∃ (k u c' : Nat) (A' : Option Addr), k ≤ n1 ∧ u ≤ 64 ∧ i = .int .i64 k ∧ v = .slice A' u c' ∧ OwnI 3 wr ws.heap.size A' u c' (((cellsL W H xs).take k).filter fun x => guardB W a b ps x m) ∧ Below ws.heap.size ws wr) (fun _ i _ => n1 - (intOf i).toNat)
  case atStart => exact ⟨0, 0, 0, none, by omega, by omega, rfl, rfl, OwnI.none_ _ _ _, Below.refl _ _⟩
  case round =>
    obtain ⟨k, u, c', A', hk, hu64, rfl, rfl, hown, hbw⟩ := hrel
    by_cases hlt : k < n1
    · obtain ⟨bb, oo, x, rfl, hg1, hx, x0⟩ := ST.out.at_ hlt
      have HX := Lib.hid hx
      have hin := cellsL_mem.1 (List.mem_of_getElem? hx)
      have HXR := Lib.hid (range_of HN.out hin)
      replace x0 := cell_keep x0 hg1 hbw
      have b0 := cell_keep a0 ga hbw; have b1 := cell_keep a1 ga hbw; have b2 := cell_keep a2 ga hbw; have m0 := cell_keep l0 gl hbw; have m1 := cell_keep l1 gl hbw
      have gb := lt_keep ga hbw; have gm := lt_keep gl hbw
      have RR := Lib.hid (RP.out.keep hbw)
      have hm1 : u ≤ k := by
        have h1 := hown.len
        have h2 := List.length_filter_le (fun x => guardB W a b ps x m) ((cellsL W H xs).take k)
        have h3 : ((cellsL W H xs).take k).length ≤ k := by rw [List.length_take]; omega
        omega
      have HO := Lib.hid hown; have HB := Lib.hid hbw
      have hsw := hbw.size
      clear hx hin hown hbw
      go_wp2_with fail
      refine (l1Has_any _ _ _ _ _ _ RR.out).mono ?_
      rintro e wv ⟨rfl, hb⟩
      replace b0 := cell_keep b0 gb hb; replace b1 := cell_keep b1 gb hb; replace b2 := cell_keep b2 gb hb; replace m0 := cell_keep m0 gm hb; replace m1 := cell_keep m1 gm hb; replace gb := lt_keep gb hb; replace gm := lt_keep gm hb; replace RR := Lib.hid (RR.out.keep hb); replace HO := Lib.hid (HO.out.keep hb); replace HB := Lib.hid (HB.out.trans (hb.mono (by omega))); replace hsw := Nat.le_trans hsw hb.size; clear hb
      obtain ⟨q0, hq0⟩ : ∃ q0, q0 = ps.contains x := ⟨_, rfl⟩
      rw [← hq0]
      have HQ0 := Lib.hid (show q0 = guardB W a b ps x 0 by rw [hq0, guardB, List.take_zero]; simp)
      clear hq0
      go_wp2
      go_loopw [10, 25] (fun v i wr => ∃ j : Nat, j ≤ m ∧ i = .int .i64 j ∧ v = .bool (guardB W a b ps x j) ∧ Below wv.heap.size wv wr) (fun _ i _ => m - (intOf i).toNat)
      case atStart => exact ⟨0, Nat.zero_le _, rfl, by rw [HQ0.out], Below.refl _ _⟩
      case round =>
        obtain ⟨j, hj, rfl, rfl, hbi⟩ := hrel
        by_cases hjm : j < m
        · obtain ⟨b3, o3, y, rfl, hg3, hy, y0⟩ := RR.out.at_ hjm
          have HY := Lib.hid (guardB_succ (W := W) (a := a) (b := b) (x := x) hy)
          have HYR := Lib.hid (range_of HN.out (HPS.out y (List.mem_of_getElem? hy)))
          replace y0 := cell_keep y0 hg3 hbi
          have d0 := cell_keep b0 gb hbi; have d1 := cell_keep b1 gb hbi; have d2 := cell_keep b2 gb hbi; have e0 := cell_keep m0 gm hbi; have e1 := cell_keep m1 gm hbi
          have HBI := Lib.hid hbi
          clear hy hbi hg3
          cases hq : guardB W a b ps x j with
          | true =>
            have HQ := Lib.hid (show guardB W a b ps x (j + 1) = true by rw [HY.out, hq, Bool.true_or])
            clear hq
            go_wp2
            go_roundw
            case rel => exact ⟨j + 1, by omega, by go_num, by rw [HQ.out], HBI.out⟩
            case measure => simp [intOf]; omega
          | false =>
            have HQ := Lib.hid (show guardB W a b ps x (j + 1) = leapB W a b y x by rw [HY.out, hq, Bool.false_or])
            clear hq
            go_wp2_with fail
            refine (boIs_any W H A n c a b y x _ HW.out HYR.out HXR.out).mono ?_
            rintro e wz ⟨rfl, hb⟩
            replace HBI := Lib.hid (below_next HBI.out hb)
            clear hb
            go_wp2
            go_roundw
            case rel => exact ⟨j + 1, by omega, by go_num, by rw [HQ.out], HBI.out⟩
            case measure => simp [intOf]; omega
        · obtain rfl : j = m := by omega
          have HO2 := Lib.hid (HO.out.keep hbi)
          have HB2 := Lib.hid (HB.out.trans (hbi.mono hsw))
          have hsw2 := Nat.le_trans hsw hbi.size
          clear hbi HO HB hsw b0 b1 b2 m0 m1 gb gm RR
          cases hq : guardB W a b ps x j with
          | true =>
            have HD := Lib.hid hq
            clear hq
            go_wp2_with (at_builtin; refine wpList_app1 rfl (.tmp 39) (.tmp 41) 22 3 rfl i0 Tryd.underlying22 HI.out HZ0.out HZ1.out HZ2.out ws.heap.size A' u c' _ x rfl HO2.out rfl (by omega) hsw2 ?_; intro A2 c2 w2 hown2 hb2)
            have HO3 := Lib.hid hown2; have HB3 := Lib.hid (HB2.out.trans hb2)
            clear hown2 hb2
            go_wp2
            go_roundw
            case rel => exact ⟨k + 1, u + 1, c2, A2, by omega, by omega, by go_num, rfl, by rw [List.take_add_one, HX.out, List.filter_append]; simp only [Option.toList, List.filter_cons, HD.out, if_true, List.filter_nil]; exact HO3.out, HB3.out⟩
            case measure => simp [intOf]; omega
          | false =>
            have HD := Lib.hid hq
            clear hq
            go_wp2
            go_roundw
            case rel => exact ⟨k + 1, u, c', A', by omega, by omega, by go_num, rfl, by rw [List.take_add_one, HX.out, List.filter_append]; simp only [Option.toList, List.filter_cons, HD.out, List.filter_nil, Bool.false_eq_true, if_false, List.append_nil]; exact HO2.out, HB2.out⟩
            case measure => simp [intOf]; omega
    · have e : k = n1 := by omega
      subst e
      have e2 : (cellsL W H xs).take k = cellsL W H xs := List.take_of_length_le (by have := SL.out; omega)
      have e3 : ((cellsL W H xs).filter fun x => guardB W a b ps x m) = guardL W H xs a b ps := by
        rw [guardL]; congr 1; funext x; exact guardB_end (by have := HPL.out; omega)
      rw [e2, e3] at hown
      have HO := Lib.hid hown; have HB := Lib.hid hbw
      clear hown hbw e2 e3
      go_wp2
      go_ret
      exact ⟨A', u, c', rfl, HO.out.lower (by omega), B.out.trans (HB.out.mono (by omega))⟩
end Go.Proofs.YtjplcnbifcpebaaDoor

namespace Go.Proofs.YtjplcnbifcpebaaDoor
open Go.RowKit Go.Shelf

def guardV (W H : Int) (xs : List Int) (a b : Int) (ps : List Int) : List Int := if askB W H xs a b ps then guardL W H xs a b ps else []
theorem len_GuardedBy (W H : Int) (xs : List Int) (a b : Int) (ps : List Int) : (guardV W H xs a b ps).length ≤ 1000000 := by
  unfold guardV
  split
  · rename_i h
    have h3 : (cellsL W H xs).length ≤ (W * H).toNat := cellsTo_len _
    have h4 := List.length_filter_le (fun c => ps.contains c || ps.any fun f => leapB W a b f c) (cellsL W H xs)
    obtain ⟨hW, hH, _, _⟩ := goodB_iff.1 (ask_parts h).1
    have := cells_le hW hH
    rw [guardL]; omega
  · simp
theorem set_lt64 {W H : Int} {xs ps : List Int} (hg : goodB W H xs = true) (h : setB W H xs ps = true) : ∀ x ∈ ps, 0 ≤ x ∧ x < 64 := fun x hx => has_64 hg ((setB_facts h).1 x hx)

set_option maxRecDepth 100000 in
set_option maxHeartbeats 1000000 in
theorem spec_GuardedBy (W H : Int) (A : Option Addr) (n c : Nat) (xs : List Int) (a b : Int) (A2 : Option Addr) (m c2 : Nat) (ps : List Int) (w : World) (ha : Rd w A n xs) (hp : Rd w A2 m ps) :
    Calls Tryd.prog 7 #[brd W H A n c, lpr a b, .slice A2 m c2] w fun e w' => ∃ A' n' c', e = .returned (.tuple #[.slice A' n' c', .bool (askB W H xs a b ps)]) ∧ OwnI 3 w' w.heap.size A' n' c' (guardV W H xs a b ps) ∧ Below w.heap.size w w' := by
  cases ht : askB W H xs a b ps with
  | true =>
    have HT := Lib.hid ht
    go_enter Tryd.func7, Tryd.ntmps7
    go_wp2_with fail
    refine (guAsked_any W H A n c xs a b A2 m c2 ps _ ((ha.alloc _).alloc _) ((hp.alloc _).alloc _)).mono ?_
    rw [ht]
    rintro e wv ⟨rfl, hb⟩
    have hbx0 := below_box hb
    have a0 : wv.cell? ⟨w.heap.size, 0, none⟩ = some (.int .i64 W) := by simpa using newbox hbx0 0
    have a1 : wv.cell? ⟨w.heap.size, 1, none⟩ = some (.int .i64 H) := by simpa using newbox hbx0 1
    have a2 : wv.cell? ⟨w.heap.size, 2, none⟩ = some (.slice A n c) := by simpa using newbox hbx0 2
    have l0 : wv.cell? ⟨w.heap.size + 1, 0, none⟩ = some (.int .i64 a) := by simpa using newbox hb 0
    have l1 : wv.cell? ⟨w.heap.size + 1, 1, none⟩ = some (.int .i64 b) := by simpa using newbox hb 1
    have B := Lib.hid (below_box hbx0)
    clear hb hbx0 ht
    go_wp2_with fail
    refine (guGuarded_any W H A n c xs a b A2 m c2 ps _ (ha.keep B.out) (hp.keep B.out) (ask_parts HT.out).1 (setB_facts (ask_parts HT.out).2.2).1).mono ?_
    rintro e wv ⟨A', n', c', rfl, ho, hb⟩
    have HO := Lib.hid (ho.lower B.out.size)
    replace B := Lib.hid (below_next B.out hb)
    clear hb ho
    go_wp2
    go_ret2
    exact ⟨A', n', c', rfl, by rw [guardV, HT.out]; exact HO.out, B.out⟩
  | false =>
    go_enter Tryd.func7, Tryd.ntmps7
    go_wp2_with fail
    refine (guAsked_any W H A n c xs a b A2 m c2 ps _ ((ha.alloc _).alloc _) ((hp.alloc _).alloc _)).mono ?_
    rw [ht]
    rintro e wv ⟨rfl, hb⟩
    have B := Lib.hid (below_box (below_box hb))
    clear hb
    go_wp2
    go_ret2
    exact ⟨none, 0, 0, rfl, by rw [guardV, ht]; exact OwnI.none_ _ _ _, B.out⟩

set_option maxRecDepth 100000 in
set_option maxHeartbeats 1000000 in
theorem impl_GuardedBy (W H : Int) (A : Option Addr) (n c : Nat) (xs : List Int) (a b : Int) (A2 : Option Addr) (m c2 : Nat) (ps : List Int) (w : World) (ha : Rd w A n xs) (hp : Rd w A2 m ps) (hT : Tab64 w ∧ 0 < w.heap.size) :
    Calls Tryd.prog 11 #[brd W H A n c, lpr a b, .slice A2 m c2] w fun e w' => ∃ A' n' c', e = .returned (.tuple #[.slice A' n' c', .bool (askB W H xs a b ps)]) ∧ OwnI 3 w' w.heap.size A' n' c' (guardV W H xs a b ps) ∧ Below w.heap.size w w' := by
  cases ht : askB W H xs a b ps with
  | true =>
    have HT := Lib.hid ht
    obtain ⟨hg, hl, hsb⟩ := ask_parts ht
    have HG := Lib.hid hg; have HL := Lib.hid hl; have HS := Lib.hid hsb
    have HTab := Lib.hid hT
    clear hg hl hsb hT
    go_enter Tryd.func11, Tryd.ntmps11
    go_wp2_with fail
    refine (isSetOn_any W H A n c xs a b A2 m c2 ps _ ((ha.alloc _).alloc _) ((hp.alloc _).alloc _)).mono ?_
    rw [ht]
    rintro e wv ⟨rfl, hb⟩
    have hbx0 := below_box hb
    have a0 : wv.cell? ⟨w.heap.size, 0, none⟩ = some (.int .i64 W) := by simpa using newbox hbx0 0
    have a1 : wv.cell? ⟨w.heap.size, 1, none⟩ = some (.int .i64 H) := by simpa using newbox hbx0 1
    have a2 : wv.cell? ⟨w.heap.size, 2, none⟩ = some (.slice A n c) := by simpa using newbox hbx0 2
    have l0 : wv.cell? ⟨w.heap.size + 1, 0, none⟩ = some (.int .i64 a) := by simpa using newbox hb 0
    have l1 : wv.cell? ⟨w.heap.size + 1, 1, none⟩ = some (.int .i64 b) := by simpa using newbox hb 1
    have B := Lib.hid (below_box hbx0)
    clear hb hbx0 ht
    go_wp2_with fail
    refine (groundOf_any W H A n c xs a b _ (ha.keep B.out) HG.out HL.out (tab_keep HTab.out B.out).1 (tab_keep HTab.out B.out).2).mono ?_
    rintro e wv ⟨rfl, hb⟩
    replace B := Lib.hid (below_next B.out hb)
    clear hb a0 a1 a2 l0 l1
    obtain ⟨G, hG⟩ : ∃ G, G = glG W H xs a b := ⟨_, rfl⟩
    rw [show gl W H xs a b (cellsL W H xs) = G from hG.symm]
    have HGG := Lib.hid hG
    clear hG
    go_wp2_with fail
    refine (setOf_any A2 m c2 ps _ (hp.keep B.out) (set_lt64 HG.out HS.out)).mono ?_
    rintro e wv ⟨rfl, hb⟩
    replace B := Lib.hid (below_next B.out hb)
    clear hb
    have hG65 : Hid (G.length = 65) := Lib.hid (by rw [HGG.out]; exact glG_len _ _ _ _ _)
    have hGlt : Hid (∀ x ∈ G, x < 18446744073709551616) := Lib.hid (by rw [HGG.out]; exact glG_lt HG.out)
    obtain ⟨s, hs⟩ : ∃ s, s = setBits (ps.map Int.toNat) := ⟨_, rfl⟩
    rw [← hs]
    have HSS := Lib.hid hs
    have hs64 : Hid (s < 18446744073709551616) := Lib.hid (by rw [hs]; exact set_lt (set_lt64 HG.out HS.out))
    clear hs
    go_wp2_with fail
    refine (guardedBy_any G hG65.out hGlt.out s hs64.out _ (tab_keep HTab.out B.out).1 (tab_keep HTab.out B.out).2).mono ?_
    rintro e wv ⟨rfl, hb⟩
    replace B := Lib.hid (below_next B.out hb)
    clear hb
    obtain ⟨u, hu⟩ : ∃ u, u = grdL G (bitsL s) := ⟨_, rfl⟩
    rw [← hu]
    have hu64 : Hid (u < 18446744073709551616) := Lib.hid (by rw [hu]; exact grdL_lt hGlt.out _ (fun x hx => ⟨(bitsL_mem.1 hx).1, (bitsL_mem.1 hx).2.1⟩))
    have HU := Lib.hid (show bitsL u = guardL W H xs a b ps by
      rw [hu, HSS.out, setB_bits HG.out HS.out, HGG.out]; exact guard_bits HG.out (setB_facts HS.out).1)
    clear hu
    go_wp2_with fail
    refine (cells_any u hu64.out _ (tab_keep HTab.out B.out).1 (tab_keep HTab.out B.out).2).mono ?_
    rintro e wv ⟨A', n', c', rfl, ho, hb⟩
    have HO := Lib.hid (ho.lower B.out.size)
    replace B := Lib.hid (below_next B.out hb)
    clear hb ho
    go_wp2
    go_ret2
    exact ⟨A', n', c', rfl, by rw [guardV, HT.out, ← HU.out]; exact HO.out, B.out⟩
  | false =>
    clear hT
    go_enter Tryd.func11, Tryd.ntmps11
    go_wp2_with fail
    refine (isSetOn_any W H A n c xs a b A2 m c2 ps _ ((ha.alloc _).alloc _) ((hp.alloc _).alloc _)).mono ?_
    rw [ht]
    rintro e wv ⟨rfl, hb⟩
    have B := Lib.hid (below_box (below_box hb))
    clear hb
    go_wp2
    go_ret2
    exact ⟨none, 0, 0, rfl, by rw [guardV, ht]; exact OwnI.none_ _ _ _, B.out⟩
end Go.Proofs.YtjplcnbifcpebaaDoor
