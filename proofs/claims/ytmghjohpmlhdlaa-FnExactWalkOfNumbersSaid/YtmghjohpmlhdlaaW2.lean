/-
  Contracts: WalkOfNumbers, the model.
-/
import Derived.Test.YtmghjohpmlhdlaaW1
namespace Go.Proofs.Ytmghjohpmlhdlaa
open Go.RowKit

theorem all_of {lo hi : Int} {xs : List Int} (h : ∀ x ∈ xs, lo ≤ x ∧ x ≤ hi) : inAll lo hi xs = true := by
  rw [inAll, List.all_eq_true]
  intro x hx
  have := h x hx
  simp [inB]; exact this
theorem of_all {lo hi : Int} {xs : List Int} (h : inAll lo hi xs = true) : ∀ x ∈ xs, lo ≤ x ∧ x ≤ hi := by
  rw [inAll, List.all_eq_true] at h
  intro x hx
  have := h x hx
  simpa [inB] using this

set_option maxRecDepth 100000 in
set_option maxHeartbeats 8000000 in
theorem spec_WalkOfNumbers (W H : Int) (A : Option Addr) (n c : Nat) (xs : List Int) (a b : Int) (A2 : Option Addr) (m c2 : Nat) (ps : List Int) (w : World) (ha : Rd w A n xs) (hp : Rd w A2 m ps) (_ : m ≤ c2) :
    Calls Try.prog 51 #[brd W H A n c, lpr a b, .slice A2 m c2] w fun e w' => ∃ A' n' c', e = .returned (.tuple #[.slice A' n' c', .bool (okWom W H xs a b ps)]) ∧ OwnI 3 w' w.heap.size A' n' c' (womV W H xs a b ps) ∧ Below w.heap.size w w' := by
  have HPL := Lib.hid hp.1
  have m9 := hp.2.1
  by_cases ht : twoV W H xs a b = true
  · go_enter Try.func51, Try.ntmps51
    go_wp2_with fail
    refine (boTwoV_any _ _ _ _ _ _ _ _ _ ((ha.alloc _).alloc _)).mono ?_
    rw [ht]
    rintro e wv ⟨rfl, hb⟩
    have hbx0 := below_box hb
    have a0 : wv.cell? ⟨w.heap.size, 0, none⟩ = some (.int .i64 W) := by simpa using newbox hbx0 0
    have a1 : wv.cell? ⟨w.heap.size, 1, none⟩ = some (.int .i64 H) := by simpa using newbox hbx0 1
    have a2 : wv.cell? ⟨w.heap.size, 2, none⟩ = some (.slice A n c) := by simpa using newbox hbx0 2
    have al : w.heap.size < wv.heap.size := by simpa using newbox_lt hbx0
    have l0 : wv.cell? ⟨w.heap.size + 1, 0, none⟩ = some (.int .i64 a) := by simpa using newbox hb 0
    have l1 : wv.cell? ⟨w.heap.size + 1, 1, none⟩ = some (.int .i64 b) := by simpa using newbox hb 1
    have ll : w.heap.size + 1 < wv.heap.size := by simpa using newbox_lt hb
    have B := Lib.hid (below_box hbx0)
    clear hb hbx0
    have HT := Lib.hid ht
    have HG := Lib.hid (two_gK ht)
    obtain ⟨N, hWH⟩ : ∃ N : Nat, W * H = (N : Int) := ⟨(W * H).toNat, by have := good_N (two_gK ht); omega⟩
    have hN := good_N (two_gK ht)
    rw [hWH] at hN
    obtain ⟨hN1, hN2⟩ := hN
    have HWH := Lib.hid (show (W * H).toNat = N by omega)
    clear ht
    by_cases hlen : m = N
    rotate_left
    · have NK := Lib.hid (show ∀ p, ¬ IsWom W H xs a b ps p from fun p h => absurd h.2.2.len (by rw [HPL.out, HWH.out]; exact hlen))
      have hqe : ((m : Int) == (N : Int)) = false := by simp; omega
      have hqn : ¬ ((m : Int) = (N : Int)) := by omega
      clear hlen
      go_wp2
      go_ret2
      exact ⟨none, 0, 0, by rw [(wom_no NK.out).1]; rfl, by rw [(wom_no NK.out).2]; exact OwnI.none_ _ _ _, B.out⟩
    subst hlen
    have hqe : ((m : Int) == (m : Int)) = true := by simp
    by_cases hall : inAll 0 (m : Int) ps = true
    rotate_left
    · have hall' : inAll 0 (m : Int) ps = false := by simpa using hall
      have NK := Lib.hid (show ∀ p, ¬ IsWom W H xs a b ps p from fun p h => hall (all_of (fun x hx => by have h1 := h.2.2.bd x hx; have h2 := posN_le ps; rw [HPL.out] at h2; omega)))
      clear hall
      go_wp2_with fail
      refine (l1All_any A2 m c2 0 (m : Int) ps _ (hp.keep B.out)).mono ?_
      rw [hall']
      rintro e wx ⟨rfl, hb⟩
      replace B := Lib.hid (below_next B.out hb)
      clear hb
      go_wp2
      go_ret2
      exact ⟨none, 0, 0, by rw [(wom_no NK.out).1]; rfl, by rw [(wom_no NK.out).2]; exact OwnI.none_ _ _ _, B.out⟩
    have HALL := Lib.hid (of_all hall)
    go_wp2_with fail
    refine (l1All_any A2 m c2 0 (m : Int) ps _ (hp.keep B.out)).mono ?_
    rw [hall]
    rintro e wx ⟨rfl, hb⟩
    replace a0 := cell_keep a0 al hb
    replace a1 := cell_keep a1 al hb
    replace a2 := cell_keep a2 al hb
    replace al := lt_keep al hb
    replace l0 := cell_keep l0 ll hb
    replace l1 := cell_keep l1 ll hb
    replace ll := lt_keep ll hb
    replace B := Lib.hid (below_next B.out hb)
    clear hb hall hqe hWH
    have RP := Lib.hid (hp.keep B.out)
    have HA := Lib.hid (⟨a0, a1, a2, l0, l1, al, ll⟩ : wx.cell? ⟨w.heap.size, 0, none⟩ = some (.int .i64 W) ∧ wx.cell? ⟨w.heap.size, 1, none⟩ = some (.int .i64 H) ∧ wx.cell? ⟨w.heap.size, 2, none⟩ = some (.slice A n c) ∧ wx.cell? ⟨w.heap.size + 1, 0, none⟩ = some (.int .i64 a) ∧ wx.cell? ⟨w.heap.size + 1, 1, none⟩ = some (.int .i64 b) ∧ w.heap.size < wx.heap.size ∧ w.heap.size + 1 < wx.heap.size)
    clear a0 a1 a2 l0 l1 al ll hp
    go_wp2
    go_loopw [8, 39] (fun s i wr => ∃ (k M : Nat), k ≤ m ∧ i = .int .i64 k ∧ s = .int .i64 M ∧ M = posN (ps.take k) ∧ Below wx.heap.size wx wr) (fun _ i _ => m - (intOf i).toNat)
    case atStart => exact ⟨0, 0, Nat.zero_le _, rfl, rfl, rfl, Below.refl _ _⟩
    case round =>
      obtain ⟨k, M, hk, rfl, rfl, hM, hbw⟩ := hrel
      have HM := Lib.hid hM
      have hMk : M ≤ k := by rw [hM]; have := posN_le (ps.take k); rw [List.length_take] at this; omega
      clear hM
      by_cases hlt : k < m
      · obtain ⟨bb, oo, x, rfl, hg1, hx, x0⟩ := RP.out.at_ hlt
        have HX := Lib.hid hx
        replace x0 := cell_keep x0 hg1 hbw
        have HB := Lib.hid hbw
        clear hx hbw
        by_cases hx0 : 0 < x
        · have HX0 := Lib.hid hx0
          go_wp2
          go_roundw
          case rel => exact ⟨k + 1, M + 1, by omega, by go_num, by go_num, by rw [List.take_add_one, HX.out, HM.out]; exact ((posN_snoc _ _).trans (by rw [if_pos HX0.out])).symm, HB.out⟩
          case measure => simp [intOf]; omega
        · have HX0 := Lib.hid hx0
          have hx1 : x ≤ 0 := by omega
          go_wp2
          go_roundw
          case rel => exact ⟨k + 1, M, by omega, by go_num, by go_num, by rw [List.take_add_one, HX.out, HM.out]; exact ((posN_snoc _ _).trans (by rw [if_neg HX0.out]; rfl)).symm, HB.out⟩
          case measure => simp [intOf]; omega
      · have HPM := Lib.hid (show M = posN ps by have h := HM.out; rw [List.take_of_length_le (by have := HPL.out; omega)] at h; exact h)
        obtain ⟨wq, hren⟩ : ∃ u, u = wr := ⟨_, rfl⟩
        subst hren
        have BQ := Lib.hid hbw
        have RQ := Lib.hid (RP.out.keep hbw)
        have hM64 : M ≤ 64 := by omega
        have hM0 : (0 : Int) ≤ (M : Int) := by omega
        have hqx := hbw.size
        clear hbw HM
        obtain ⟨i0, hi, hz0, hz1, hz2⟩ := info_parts infoI
        have HI := Lib.hid hi; have HZ0 := Lib.hid hz0; have HZ1 := Lib.hid hz1; have HZ2 := Lib.hid hz2
        clear hi hz0 hz1 hz2
        go_wp2_with (at_make; refine wpList_make_full _ rfl _ _ 22 rfl wq.heap.size 3 i0 (.int .i64 0) 1 Try.underlying22 HI.out HZ0.out HZ1.out .i64 .i64 _ _ M rfl rfl rfl rfl (by rw [HZ2.out]; omega) (by unfold maxLen; omega) (Nat.le_refl _) ?_; intro w1 hown1 hg1)
        have hO1 : OwnI 3 w1 wq.heap.size (some ⟨wq.heap.size, 0, none⟩) M M (List.replicate M 0) := by
          unfold OwnI
          rw [show M * 1 = M from by omega] at hown1
          have e : (madeCells (Value.cells (.int .i64 0)) M).toList = List.replicate M (.int .i64 0) := toList_madeCells_one (.int .i64 0) M
          rw [e] at hown1
          simpa using hown1
        obtain ⟨fb, hfb⟩ : ∃ fb, fb = wq.heap.size := ⟨_, rfl⟩
        rw [← hfb] at hO1 ⊢
        have hg2 : wq.grownBy w1 (some fb) := ⟨hg1.os, hg1.tape, hg1.output, hg1.size, fun i hi _ => hg1.block i hi (by simp)⟩
        have FAR := Lib.hid hO1; have G1 := Lib.hid hg2
        have HFB := Lib.hid hfb
        have hw8 := hg1.size
        clear hfb hown1 hg1 hg2 hO1
        go_loopw [52] (fun i wr => ∃ (k : Nat) (P : List Int), k ≤ m ∧ i = .int .i64 k ∧ OwnI 3 wr fb (some ⟨fb, 0, none⟩) M M P ∧ P = wrL 0 (ps.take k) (List.replicate M 0) ∧ wq.grownBy wr (some fb)) (fun i _ => m - (intOf i).toNat)
        case atStart => exact ⟨0, _, Nat.zero_le _, rfl, FAR.out, by simp [wrL], G1.out⟩
        case round =>
          obtain ⟨k, P, hk, rfl, hown, hP, hgw⟩ := hrel
          have HP := Lib.hid hP
          clear hP
          by_cases hlt : k < m
          · obtain ⟨bb, oo, x, rfl, hg1, hx, x0⟩ := RQ.out.at_ hlt
            have HX := Lib.hid hx
            have hne : bb ≠ fb := by have := HFB.out; omega
            replace x0 := hgw.cell x0 (by simpa using hne)
            have hxr := HALL.out x (List.mem_of_getElem? hx)
            obtain ⟨hx1, hx2⟩ := hxr
            clear hx hne
            by_cases hbig : (M : Int) < x
            · have NK := Lib.hid (show ∀ p, ¬ IsWom W H xs a b ps p from fun p h => absurd (h.2.2.bd x (List.mem_of_getElem? HX.out)).2 (by rw [← HPM.out]; omega))
              have HG2 := Lib.hid (below_of_grown hgw (Nat.le_refl wq.heap.size) (fun g h => by injection h with h; have := HFB.out; omega))
              clear hown hgw
              go_wp2
              go_ret2
              exact ⟨none, 0, 0, by rw [(wom_no NK.out).1]; rfl, by rw [(wom_no NK.out).2]; exact OwnI.none_ _ _ _, B.out.trans ((BQ.out.trans (HG2.out.mono BQ.out.size)).mono B.out.size)⟩
            · have hsm : x ≤ (M : Int) := by omega
              by_cases hx0 : 0 < x
              · have HX0 := Lib.hid hx0
                obtain ⟨j, hj⟩ : ∃ j : Nat, x = (j : Int) + 1 := ⟨(x - 1).toNat, by omega⟩
                have HJ := Lib.hid hj
                have hjM : j < M := by omega
                have hj1 : (j : Int) < (M : Int) := by omega
                have hj2 : (0 : Int) ≤ (j : Int) := by omega
                have hw4 : IntKind.i64.wrap (x - 1) = (j : Int) := by rw [show (x - 1) = (j : Int) by omega]; exact IntWalk.i64_in _ (by omega)
                have hll := hown.len
                obtain ⟨y0, hy⟩ : ∃ y, P[j]? = some y := ⟨_, List.getElem?_eq_getElem (show j < P.length by omega)⟩
                have c0 := hown.cell hy
                have f0 := hown.frozen j
                have hl0 : fb < wr.heap.size := by rcases hown.some_ (k := 0) (by omega) with ⟨g9, h9, _, h8⟩; injection h9 with h9; injection h9 with h9; omega
                obtain ⟨o1, g1⟩ := hown.stored j (k : Int)
                have O1 := Lib.hid o1; have GW := Lib.hid (grown_next hgw g1)
                clear o1 g1 hgw hown hll hy hj
                go_wp2
                go_roundw
                case rel => exact ⟨k + 1, P.set j (k : Int), by omega, by go_num, O1.out, by rw [List.take_add_one, HX.out]; refine ((wrL_snoc _ _ _ _).trans ?_).symm; rw [if_pos HX0.out, ← HP.out, show (x - 1).toNat = j by have := HJ.out; omega, List.length_take, HPL.out, Nat.min_eq_left hk, Nat.zero_add], GW.out⟩
                case measure => simp [intOf]; omega
              · have HX0 := Lib.hid hx0
                have hx3 : x ≤ 0 := by omega
                have O1 := Lib.hid hown; have GW := Lib.hid hgw
                clear hown hgw
                go_wp2
                go_roundw
                case rel => exact ⟨k + 1, P, by omega, by go_num, O1.out, by rw [List.take_add_one, HX.out]; refine ((wrL_snoc _ _ _ _).trans ?_).symm; rw [if_neg HX0.out, ← HP.out], GW.out⟩
                case measure => simp [intOf]; omega
          · have HPE := Lib.hid (show P = wrL 0 ps (List.replicate (posN ps) 0) by have h := HP.out; rw [List.take_of_length_le (by have := HPL.out; omega), HPM.out] at h; exact h)
            have HPR := Lib.hid (show ∀ y ∈ P, 0 ≤ y ∧ y < (m : Int) by rw [HPE.out]; exact wrL_rng ps 0 _ (by rw [HPL.out]; omega) (fun y hy => by have := (List.mem_replicate.1 hy).2; omega))
            obtain ⟨wz, hren⟩ : ∃ u, u = wr := ⟨_, rfl⟩
            subst hren
            have OZ := Lib.hid hown
            have HGZ := Lib.hid hgw
            have BZ := Lib.hid (below_of_grown hgw (Nat.le_refl wq.heap.size) (fun g h => by injection h with h; have := HFB.out; omega))
            have hzq := hgw.size
            clear hown hgw HP
            go_wp2
            go_loopw [70] (fun i wr => ∃ k : Nat, k ≤ M ∧ i = .int .i64 k ∧ (∀ (i : Nat) (x : Int), i < k → P[i]? = some x → ps[x.toNat]? = some ((i : Int) + 1)) ∧ Below wz.heap.size wz wr) (fun i _ => M - (intOf i).toNat)
            case atStart => exact ⟨0, Nat.zero_le _, rfl, (fun i x h => by omega), Below.refl _ _⟩
            case round =>
              obtain ⟨k, hk, rfl, hch, hbw⟩ := hrel
              have HC := Lib.hid hch
              clear hch
              by_cases hlt : k < M
              · have hPL := OZ.out.len
                obtain ⟨y, hy⟩ : ∃ y, P[k]? = some y := ⟨_, List.getElem?_eq_getElem (show k < P.length by omega)⟩
                have HY := Lib.hid hy
                obtain ⟨hy0, hy1⟩ := HPR.out y (List.mem_of_getElem? hy)
                have c0 := (hbw.cell (p := ⟨fb, k, none⟩) (by rcases OZ.out.some_ (k := 0) (by omega) with ⟨g9, h9, _, h8⟩; injection h9 with h9; injection h9 with h9; show fb < _; omega)).trans (OZ.out.cell hy)
                obtain ⟨j, rfl⟩ : ∃ j : Nat, y = (j : Int) := ⟨y.toNat, by omega⟩
                obtain ⟨bb, oo, v, rfl, hg1, hv, v0⟩ := RQ.out.at_ (k := j) (by omega)
                have hne : bb ≠ fb := by have := HFB.out; omega
                replace v0 := HGZ.out.cell v0 (by simpa using hne)
                replace v0 := (hbw.cell (p := ⟨bb, oo + j, none⟩) (by show bb < _; omega)).trans v0
                have HV := Lib.hid hv
                have HB := Lib.hid hbw
                have hvb := HALL.out v (List.mem_of_getElem? hv)
                obtain ⟨hv1, hv2⟩ := hvb
                clear hv hbw hy hPL hne
                by_cases hve : v = (k : Int) + 1
                · have hqe : (v == (k : Int) + 1) = true := by simpa using hve
                  have HVE := Lib.hid hve
                  clear hve
                  go_wp2
                  go_roundw
                  case rel => exact ⟨k + 1, by omega, by go_num, (fun i x hi hx => by
                    rcases Nat.lt_or_eq_of_le (Nat.le_of_lt_succ hi) with h | h
                    · exact HC.out i x h hx
                    · subst h
                      rw [HY.out] at hx; injection hx with hx
                      rw [← hx, Int.toNat_natCast, HV.out, HVE.out]), HB.out⟩
                  case measure => simp [intOf]; omega
                · have hqe : (v == (k : Int) + 1) = false := by simpa using hve
                  have NK := Lib.hid (show ∀ p, ¬ IsWom W H xs a b ps p from fun p h => hve (by
                    have h1 := h.2.2.wr
                    rw [← HPE.out] at h1
                    have h2 := h.2.2.num k _ (h1 ▸ HY.out)
                    rw [Int.toNat_natCast, HV.out] at h2
                    injection h2))
                  clear hve
                  go_wp2
                  go_ret2
                  exact ⟨none, 0, 0, by rw [(wom_no NK.out).1]; rfl, by rw [(wom_no NK.out).2]; exact OwnI.none_ _ _ _, B.out.trans ((BQ.out.trans ((BZ.out.trans (HB.out.mono BZ.out.size)).mono BQ.out.size)).mono B.out.size)⟩
              · have HB := Lib.hid hbw
                have HCA := Lib.hid (show ∀ (i : Nat) (x : Int), P[i]? = some x → ps[x.toNat]? = some ((i : Int) + 1) from fun i x hx => HC.out i x (by have := (List.getElem?_eq_some_iff.1 hx).1; have := OZ.out.len; omega) hx)
                obtain ⟨z0, z1, z2, z3, z4, zl, zm⟩ := HA.out
                have BW := Lib.hid (BQ.out.trans (BZ.out.mono BQ.out.size))
                have BWW := Lib.hid (BW.out.trans (HB.out.mono BW.out.size))
                have a0 := cell_keep z0 zl BWW.out; have a1 := cell_keep z1 zl BWW.out; have a2 := cell_keep z2 zl BWW.out
                have l0 := cell_keep z3 zm BWW.out; have l1 := cell_keep z4 zm BWW.out
                have OW := Lib.hid (OZ.out.keep HB.out)
                have RA := Lib.hid ((ha.keep B.out).keep BWW.out)
                have BALL := Lib.hid (B.out.trans (BWW.out.mono B.out.size))
                clear z0 z1 z2 z3 z4 zl zm hbw
                by_cases hwk : walkB W H xs a b P = true
                · have HWK := Lib.hid hwk
                  go_wp2_with fail
                  refine (toWalk_any W H A n c xs a b _ M M P _ RA.out OW.out.rd (Nat.le_refl _) HG.out).mono ?_
                  rw [hwk]
                  rintro e wy ⟨rfl, hb⟩
                  have BY := Lib.hid (below_next BALL.out hb)
                  have OY := Lib.hid (OW.out.keep hb)
                  clear hb hwk
                  have WM := Lib.hid (wom_yes ⟨HT.out, HWK.out, by
                    rw [HWH.out]
                    refine tells_wr HPL.out (by have h := HWK.out; simp only [walkB, Bool.and_eq_true, decide_eq_true_eq] at h; exact h.2) (by rw [OZ.out.len, HPM.out]) (fun x hx => (HALL.out x hx).1) HPR.out HCA.out⟩ : okWom W H xs a b ps = true ∧ womV W H xs a b ps = P)
                  go_wp2
                  go_ret2
                  exact ⟨_, M, M, by rw [WM.out.1]; rfl, by rw [WM.out.2]; exact OY.out.lower (by have := HFB.out; have := B.out.size; omega), BY.out⟩
                · have hwk' : walkB W H xs a b P = false := by simpa using hwk
                  have NK := Lib.hid (show ∀ p, ¬ IsWom W H xs a b ps p from fun p h => hwk (by
                    have h1 := h.2.2.wr
                    rw [← HPE.out] at h1
                    rw [h1]; exact h.2.1))
                  clear hwk
                  go_wp2_with fail
                  refine (toWalk_any W H A n c xs a b _ M M P _ RA.out OW.out.rd (Nat.le_refl _) HG.out).mono ?_
                  rw [hwk']
                  rintro e wy ⟨rfl, hb⟩
                  have BY := Lib.hid (below_next BALL.out hb)
                  clear hb
                  go_wp2
                  go_ret2
                  exact ⟨none, 0, 0, by rw [(wom_no NK.out).1]; rfl, by rw [(wom_no NK.out).2]; exact OwnI.none_ _ _ _, BY.out⟩
  · have ht' : twoV W H xs a b = false := by simpa using ht
    go_enter Try.func51, Try.ntmps51
    go_wp2_with fail
    refine (boTwoV_any _ _ _ _ _ _ _ _ _ ((ha.alloc _).alloc _)).mono ?_
    rw [ht']
    rintro e wv ⟨rfl, hb⟩
    have hbx0 := below_box hb
    have a0 : wv.cell? ⟨w.heap.size, 0, none⟩ = some (.int .i64 W) := by simpa using newbox hbx0 0
    have a1 : wv.cell? ⟨w.heap.size, 1, none⟩ = some (.int .i64 H) := by simpa using newbox hbx0 1
    have a2 : wv.cell? ⟨w.heap.size, 2, none⟩ = some (.slice A n c) := by simpa using newbox hbx0 2
    have al : w.heap.size < wv.heap.size := by simpa using newbox_lt hbx0
    have l0 : wv.cell? ⟨w.heap.size + 1, 0, none⟩ = some (.int .i64 a) := by simpa using newbox hb 0
    have l1 : wv.cell? ⟨w.heap.size + 1, 1, none⟩ = some (.int .i64 b) := by simpa using newbox hb 1
    have ll : w.heap.size + 1 < wv.heap.size := by simpa using newbox_lt hb
    have B := Lib.hid (below_box hbx0)
    clear hb hbx0
    have NK : ∀ p, ¬ IsWom W H xs a b ps p := fun p h => absurd h.1 (by rw [ht']; simp)
    go_wp2
    go_ret2
    exact ⟨none, 0, 0, by rw [(wom_no NK).1]; rfl, by rw [(wom_no NK).2]; exact OwnI.none_ _ _ _, B.out⟩

end Go.Proofs.Ytmghjohpmlhdlaa
