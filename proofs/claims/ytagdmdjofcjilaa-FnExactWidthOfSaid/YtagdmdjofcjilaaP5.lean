/-
  Contracts: WidthOf.
-/
import Derived.Test.YtagdmdjofcjilaaP4
namespace Go.Proofs.Ytagdmdjofcjilaa
open Go.RowKit

/-- The greatest distance from a cell. -/
def farF (W H : Int) (xs : List Int) (a b c : Int) : Int := (distL W H xs a b c).getD (mostTo (distL W H xs a b c) (W * H).toNat).toNat (-1)
def widTo (W H : Int) (xs : List Int) (a b : Int) (k : Nat) : Int := ((cellsL W H xs).take k).foldl (fun m c => max m (farF W H xs a b c)) 0
def widthV (W H : Int) (xs : List Int) (a b : Int) : Int := if wholeV W H xs a b = true then widTo W H xs a b (cellsL W H xs).length else 0
theorem widTo_next {W H a b c : Int} {xs : List Int} {k : Nat} (hc : (cellsL W H xs)[k]? = some c) : widTo W H xs a b (k + 1) = max (widTo W H xs a b k) (farF W H xs a b c) := by
  rw [widTo, take_foldl _ hc]; rfl
theorem farF_most {W H a b c : Int} {xs : List Int} {N : Nat} (h : OnFacts W H xs a b N) (hp : hasB W H xs c = true) : ∃ j, IsMost (distL W H xs a b c) j ∧ farF W H xs a b c = (distL W H xs a b c).getD j (-1) := by
  have hr := (hasB_iff.1 hp).1
  have hN : (W * H).toNat = N := by have := h.wh; omega
  obtain ⟨j, ej, M⟩ := most_is (L := distL W H xs a b c) (k := c.toNat) (by rw [dist_len h hp]; have := h.wh; omega) (by rw [dist_self h hp]; omega)
  rw [dist_len h hp] at ej
  exact ⟨j, M, by rw [farF, hN, ej, Int.toNat_natCast]⟩
theorem farF_bd {W H a b c : Int} {xs : List Int} {N : Nat} (h : OnFacts W H xs a b N) (hp : hasB W H xs c = true) : 0 ≤ farF W H xs a b c ∧ farF W H xs a b c ≤ 64 := by
  obtain ⟨j, M, e⟩ := farF_most h hp
  rw [e]
  refine ⟨M.nn, ?_⟩
  rw [List.getD_eq_getElem?_getD, List.getElem?_eq_getElem M.lt]
  exact (dist_bd h hp _ (List.getElem_mem M.lt)).2
theorem farF_max {W H a b c : Int} {xs : List Int} {N : Nat} (h : OnFacts W H xs a b N) (hp : hasB W H xs c = true) : Go.Lib.maxOf (farL (leapsL W H xs a b) 64 c) = farF W H xs a b c := by
  obtain ⟨j, M, e⟩ := farF_most h hp
  rw [e]
  exact most_max M (far64 h hp)
theorem widTo_bd {W H a b : Int} {xs : List Int} {N : Nat} (h : OnFacts W H xs a b N) : ∀ k, 0 ≤ widTo W H xs a b k ∧ widTo W H xs a b k ≤ 64
  | 0 => by rw [widTo]; simp
  | k + 1 => by
    have ih := widTo_bd h k
    cases hc : (cellsL W H xs)[k]? with
    | none =>
      have e : widTo W H xs a b (k + 1) = widTo W H xs a b k := by rw [widTo, widTo, List.take_add_one, hc]; simp
      rw [e]; exact ih
    | some c =>
      rw [widTo_next hc]
      have := farF_bd h (cellsL_mem.1 (List.mem_of_getElem? hc))
      omega
set_option maxHeartbeats 400000 in
theorem l1Most2_any (x y : Int) (w : World) :
    Calls Try.prog 71 #[.int .i64 x, .int .i64 y] w fun e w' => e = .returned (.int .i64 (max x y)) ∧ Below w.heap.size w w' := by
  by_cases h : y < x
  · go_enter Try.func71, Try.ntmps71
    go_wp2
    go_ret
    exact ⟨ret_int (by omega), Below.refl _ _⟩
  · go_enter Try.func71, Try.ntmps71
    go_wp2
    go_ret
    exact ⟨ret_int (by omega), Below.refl _ _⟩

set_option maxRecDepth 100000 in
set_option maxHeartbeats 4000000 in
theorem spec_WidthOf (W H : Int) (A : Option Addr) (n c : Nat) (xs : List Int) (a b : Int) (w : World) (ha : Rd w A n xs) :
    Calls Try.prog 41 #[brd W H A n c, lpr a b] w fun e w' => e = .returned (.tuple #[.int .i64 (widthV W H xs a b), .bool (wholeV W H xs a b)]) ∧ Below w.heap.size w w' := by
  by_cases ht : (goodB W H xs && leaperB a b) = true
  · have hok : okTwo W H xs a b = true := by rw [okTwo, two_l ht, two_g ht]; rfl
    have FO := on_facts hok
    obtain ⟨N, hN⟩ : ∃ N, N = (W * H).toNat := ⟨_, rfl⟩
    rw [← hN] at FO
    have HF := Lib.hid FO
    have HOK := Lib.hid hok
    have n64 := FO.n.2
    clear FO hN
    have hN8 := cells_le (goodB_iff.1 HF.out.g).1 (goodB_iff.1 HF.out.g).2.1
    have HN := Lib.hid hN8
    clear hN8
    go_enter Try.func41, Try.ntmps41
    go_wp2_with fail
    refine (boTwo_any _ _ _ _ _ _ _ _ _ ((ha.alloc _).alloc _)).mono ?_
    rw [ht]
    rintro e wv ⟨rfl, hb⟩
    have hbx0 := below_box hb
    have a0 : wv.cell? ⟨w.heap.size, 0, none⟩ = some (.int .i64 W) := by simpa using newbox hbx0 0
    have a1 : wv.cell? ⟨w.heap.size, 1, none⟩ = some (.int .i64 H) := by simpa using newbox hbx0 1
    have a2 : wv.cell? ⟨w.heap.size, 2, none⟩ = some (.slice A n c) := by simpa using newbox hbx0 2
    have al : w.heap.size < wv.heap.size := by simpa using newbox_lt hbx0
    have l0 : wv.cell? ⟨w.heap.size + 1, 0, none⟩ = some (.int .i64 a) := by simpa using newbox hb 0
    have l1 : wv.cell? ⟨w.heap.size + 1, 1, none⟩ = some (.int .i64 b) := by simpa using newbox hb 1
    have ll : w.heap.size + 1 < wv.heap.size := by simpa using newbox_lt hb
    have B := Lib.hid (below_box hbx0)
    clear hb hbx0
    go_wp2_with fail
    refine (faParts_any W H A n c xs a b N _ (ha.keep B.out) HF.out).mono ?_
    rintro e wx ⟨A', n', c', top, rfl, pa, hb⟩
    have hlen := pa.len
    have HLEN := Lib.hid hlen
    replace a0 := cell_keep a0 al hb; replace a1 := cell_keep a1 al hb; replace a2 := cell_keep a2 al hb; replace l0 := cell_keep l0 ll hb; replace l1 := cell_keep l1 ll hb; replace al := lt_keep al hb; replace ll := lt_keep ll hb
    replace B := Lib.hid (below_next B.out hb)
    clear pa hb hlen
    by_cases h1 : n' = 1
    · subst h1
      have hw : wholeV W H xs a b = true := by rw [wholeV, HOK.out, HLEN.out]; rfl
      have HW := Lib.hid hw
      clear hw HLEN
      go_wp2_with fail
      refine (boCells_any W H A n c xs _ (ha.keep B.out) HN.out).mono ?_
      rintro e ws ⟨A1, n1, c1, rfl, hst, hb⟩
      replace a0 := cell_keep a0 al hb; replace a1 := cell_keep a1 al hb; replace a2 := cell_keep a2 al hb; replace l0 := cell_keep l0 ll hb; replace l1 := cell_keep l1 ll hb; replace al := lt_keep al hb; replace ll := lt_keep ll hb
      replace B := Lib.hid (below_next B.out hb)
      have ST := Lib.hid hst.rd
      have SL := Lib.hid hst.len
      have n8 : n1 ≤ 64 := by have := cellsTo_len (W := W) (H := H) (hs := xs) (W * H).toNat; have := hst.len; have := HN.out; unfold cellsL at *; omega
      have n9 := hst.rd.2.1
      clear hst hb
      go_wp2
      go_loopw [6, 25] (fun v i wr => ∃ k : Nat, k ≤ n1 ∧ i = .int .i64 k ∧ v = .int .i64 (widTo W H xs a b k) ∧ Below ws.heap.size ws wr) (fun _ i _ => n1 - (intOf i).toNat)
      case atStart => exact ⟨0, by omega, rfl, rfl, Below.refl _ _⟩
      case round =>
        obtain ⟨k, hk, rfl, rfl, hbw⟩ := hrel
        have hmb := widTo_bd HF.out k
        by_cases hlt : k < n1
        · obtain ⟨bb, oo, x, rfl, hg1, hx, x0⟩ := (ST.out.keep hbw).at_ hlt
          have hin := cellsL_mem.1 (List.mem_of_getElem? hx)
          have hxr := (hasB_iff.1 hin).1
          rw [HF.out.wh] at hxr
          obtain ⟨xn, rfl⟩ : ∃ xn : Nat, x = (xn : Int) := ⟨x.toNat, by omega⟩
          have hxn : xn < N := by omega
          have hxh : hasB W H xs (xn : Int) = true := hin
          have hfb := farF_bd HF.out hxh
          have est := widTo_next (a := a) (b := b) hx
          have EST := Lib.hid est; have HXI := Lib.hid hxh; have HFB := Lib.hid hfb
          obtain ⟨mk, hmk⟩ : ∃ mk, mk = widTo W H xs a b k := ⟨_, rfl⟩
          rw [← hmk] at hmb ⊢
          have HMK := Lib.hid hmk; have HMB := Lib.hid hmb
          have HB := Lib.hid (below_next B.out hbw); have HBW := Lib.hid hbw
          have b0 := cell_keep a0 al hbw; have b1 := cell_keep a1 al hbw; have b2 := cell_keep a2 al hbw; have m0 := cell_keep l0 ll hbw; have m1 := cell_keep l1 ll hbw
          clear hx hin hxr hxh hfb est hmk hmb hbw
          go_wp2_with fail
          refine (faFrom_any W H A n c xs a b xn N _ (ha.keep HB.out) HF.out.g HF.out.wh hxn).mono ?_
          rintro e wv ⟨g, rfl, own, hb⟩
          have eD : farL (leapsL W H xs a b) N (xn : Int) = distL W H xs a b (xn : Int) := by rw [distL, show (W * H).toNat = N by have := HF.out.wh; omega]
          rw [eD] at own
          have DRD := Lib.hid own.rd
          replace HBW := Lib.hid (below_next HBW.out hb)
          clear own hb eD x0 b0 b1 b2 m0 m1
          go_wp2_with fail
          refine (faMost_any _ N N _ _ DRD.out (dist_bd HF.out HXI.out) n64 xn hxn (by rw [dist_selfN HF.out HXI.out]; omega)).mono ?_
          rintro e wz ⟨rfl, hb⟩
          have ef : (distL W H xs a b (xn : Int)).getD (mostTo (distL W H xs a b (xn : Int)) N).toNat (-1) = farF W H xs a b (xn : Int) := by rw [farF, show (W * H).toNat = N by have := HF.out.wh; omega]
          rw [ef]
          obtain ⟨fx, hfx⟩ : ∃ fx, fx = farF W H xs a b (xn : Int) := ⟨_, rfl⟩
          rw [← hfx]
          have HFX := Lib.hid hfx
          replace HBW := Lib.hid (below_next HBW.out hb)
          clear hb DRD ef hfx
          go_wp2_with fail
          refine (l1Most2_any mk fx _).mono ?_
          rintro e w5 ⟨rfl, hb⟩
          replace HBW := Lib.hid (below_next HBW.out hb)
          clear hb
          go_wp2
          go_roundw
          case rel => exact ⟨k + 1, by omega, by go_num, by rw [EST.out, HFX.out, HMK.out], HBW.out⟩
          case measure => simp [intOf]; omega
        · obtain rfl : k = n1 := by omega
          have HB := Lib.hid (below_next B.out hbw)
          have eW : widTo W H xs a b k = widthV W H xs a b := by rw [widthV, if_pos HW.out, widTo, widTo, List.take_of_length_le (by have := SL.out; omega), List.take_length]
          rw [eW]
          clear hbw hmb eW
          go_wp2
          go_ret2
          exact ⟨by rw [HW.out]; rfl, HB.out⟩
    · have hw : wholeV W H xs a b = false := by rw [wholeV, HOK.out, HLEN.out, show decide (n' = 1) = false by simpa using h1]; rfl
      have h1' : ((n' : Int) != 1) = true := by simp; omega
      have HW := Lib.hid hw
      clear hw HLEN
      go_wp2
      go_ret2
      exact ⟨by rw [widthV, HW.out]; rfl, B.out⟩
  · have ht' : (goodB W H xs && leaperB a b) = false := by simpa using ht
    go_enter Try.func41, Try.ntmps41
    go_wp2_with fail
    refine (boTwo_any _ _ _ _ _ _ _ _ _ ((ha.alloc _).alloc _)).mono ?_
    rw [ht']
    rintro e wv ⟨rfl, hb⟩
    have hbx0 := below_box hb
    have a0 : wv.cell? ⟨w.heap.size, 0, none⟩ = some (.int .i64 W) := by simpa using newbox hbx0 0
    have a1 : wv.cell? ⟨w.heap.size, 1, none⟩ = some (.int .i64 H) := by simpa using newbox hbx0 1
    have a2 : wv.cell? ⟨w.heap.size, 2, none⟩ = some (.slice A n c) := by simpa using newbox hbx0 2
    have al : w.heap.size < wv.heap.size := by simpa using newbox_lt hbx0
    have l0 : wv.cell? ⟨w.heap.size + 1, 0, none⟩ = some (.int .i64 a) := by simpa using newbox hb 0
    have l1 : wv.cell? ⟨w.heap.size + 1, 1, none⟩ = some (.int .i64 b) := by simpa using newbox hb 1
    have ll : w.heap.size + 1 < wv.heap.size := by simpa using newbox_lt hb
    have B := Lib.hid (below_box hbx0)
    clear hb hbx0
    go_wp2
    go_ret2
    exact ⟨by rw [widthV, show wholeV W H xs a b = false by rw [wholeV, show okTwo W H xs a b = false by (rw [okTwo, Bool.and_comm, ht'])]; rfl]; rfl, B.out⟩

set_option maxRecDepth 100000 in
set_option maxHeartbeats 4000000 in
theorem impl_WidthOf (W H : Int) (A : Option Addr) (n c : Nat) (xs : List Int) (a b : Int) (w : World) (ha : Rd w A n xs) :
    Calls Try.prog 42 #[brd W H A n c, lpr a b] w fun e w' => e = .returned (.tuple #[.int .i64 (widthV W H xs a b), .bool (wholeV W H xs a b)]) ∧ Below w.heap.size w w' := by
  by_cases ho : onB W H xs a b [] = true
  · have hok : okTwo W H xs a b = true := by rw [← onB_nil2, ho]
    have FO := on_facts hok
    obtain ⟨N, hN⟩ : ∃ N, N = (W * H).toNat := ⟨_, rfl⟩
    rw [← hN] at FO
    have HF := Lib.hid FO
    have HOK := Lib.hid hok
    have n64 := FO.n.2
    clear FO hN
    have hN8 := cells_le (goodB_iff.1 HF.out.g).1 (goodB_iff.1 HF.out.g).2.1
    have HN := Lib.hid hN8
    clear hN8
    go_enter Try.func42, Try.ntmps42
    go_wp2_with fail
    refine (isLeaperOn_any _ _ _ _ _ _ _ _ _ _ _ [] _ ((ha.alloc _).alloc _) (Rd.nil _ _)).mono ?_
    rw [ho]
    rintro e wv ⟨rfl, hb⟩
    have hbx0 := below_box hb
    have a0 : wv.cell? ⟨w.heap.size, 0, none⟩ = some (.int .i64 W) := by simpa using newbox hbx0 0
    have a1 : wv.cell? ⟨w.heap.size, 1, none⟩ = some (.int .i64 H) := by simpa using newbox hbx0 1
    have a2 : wv.cell? ⟨w.heap.size, 2, none⟩ = some (.slice A n c) := by simpa using newbox hbx0 2
    have al : w.heap.size < wv.heap.size := by simpa using newbox_lt hbx0
    have l0 : wv.cell? ⟨w.heap.size + 1, 0, none⟩ = some (.int .i64 a) := by simpa using newbox hb 0
    have l1 : wv.cell? ⟨w.heap.size + 1, 1, none⟩ = some (.int .i64 b) := by simpa using newbox hb 1
    have ll : w.heap.size + 1 < wv.heap.size := by simpa using newbox_lt hb
    have B := Lib.hid (below_box hbx0)
    clear hb hbx0
    go_wp2_with fail
    refine (onwardOf_any W H A n c xs a b _ (ha.keep B.out) HF.out.g HF.out.l).mono ?_
    rintro e wx ⟨mb, rfl, hom, hb⟩
    have HOM := Lib.hid hom
    replace a0 := cell_keep a0 al hb; replace a1 := cell_keep a1 al hb; replace a2 := cell_keep a2 al hb; replace l0 := cell_keep l0 ll hb; replace l1 := cell_keep l1 ll hb; replace al := lt_keep al hb; replace ll := lt_keep ll hb
    replace B := Lib.hid (below_next B.out hb)
    clear hom hb
    go_wp2_with fail
    refine (isWhole_any W H A n c xs a b N _ mb _ (ha.keep B.out) HF.out HOM.out).mono ?_
    rintro e wy ⟨rfl, hb⟩
    replace HOM := Lib.hid (HOM.out.keep hb)
    replace a0 := cell_keep a0 al hb; replace a1 := cell_keep a1 al hb; replace a2 := cell_keep a2 al hb; replace l0 := cell_keep l0 ll hb; replace l1 := cell_keep l1 ll hb; replace al := lt_keep al hb; replace ll := lt_keep ll hb
    replace B := Lib.hid (below_next B.out hb)
    clear hb
    by_cases h1 : (partsL W H xs a b).length = 1
    · have hw : wholeV W H xs a b = true := by rw [wholeV, HOK.out, h1]; rfl
      have HW := Lib.hid hw
      rw [show decide ((partsL W H xs a b).length = 1) = true by simpa using h1]
      clear hw h1
      go_wp2_with fail
      refine (cellsThere_any W H A n c xs _ (ha.keep B.out) HF.out.g).mono ?_
      rintro e ws ⟨A1, n1, c1, rfl, hst, hb⟩
      replace HOM := Lib.hid (HOM.out.keep hb)
      replace a0 := cell_keep a0 al hb; replace a1 := cell_keep a1 al hb; replace a2 := cell_keep a2 al hb; replace l0 := cell_keep l0 ll hb; replace l1 := cell_keep l1 ll hb; replace al := lt_keep al hb; replace ll := lt_keep ll hb
      replace B := Lib.hid (below_next B.out hb)
      have ST := Lib.hid hst.rd
      have SL := Lib.hid hst.len
      have n8 : n1 ≤ 64 := by have := cellsTo_len (W := W) (H := H) (hs := xs) (W * H).toNat; have := hst.len; have := HN.out; unfold cellsL at *; omega
      have n9 := hst.rd.2.1
      clear hst hb
      go_wp2
      go_loopw [7, 24] (fun v i wr => ∃ k : Nat, k ≤ n1 ∧ i = .int .i64 k ∧ v = .int .i64 (widTo W H xs a b k) ∧ Below ws.heap.size ws wr) (fun _ i _ => n1 - (intOf i).toNat)
      case atStart => exact ⟨0, by omega, rfl, rfl, Below.refl _ _⟩
      case round =>
        obtain ⟨k, hk, rfl, rfl, hbw⟩ := hrel
        have hmb := widTo_bd HF.out k
        by_cases hlt : k < n1
        · obtain ⟨bb, oo, x, rfl, hg1, hx, x0⟩ := (ST.out.keep hbw).at_ hlt
          have hin := cellsL_mem.1 (List.mem_of_getElem? hx)
          have hxr := (hasB_iff.1 hin).1
          rw [HF.out.wh] at hxr
          obtain ⟨xn, rfl⟩ : ∃ xn : Nat, x = (xn : Int) := ⟨x.toNat, by omega⟩
          have hxn : xn < N := by omega
          have hxh : hasB W H xs (xn : Int) = true := hin
          have hfb := farF_bd HF.out hxh
          have est := widTo_next (a := a) (b := b) hx
          have EST := Lib.hid est; have HXI := Lib.hid hxh; have HFB := Lib.hid hfb
          obtain ⟨mk, hmk⟩ : ∃ mk, mk = widTo W H xs a b k := ⟨_, rfl⟩
          rw [← hmk] at hmb ⊢
          have HMK := Lib.hid hmk; have HMB := Lib.hid hmb
          have HB := Lib.hid (below_next B.out hbw); have HBW := Lib.hid hbw
          have b0 := cell_keep a0 al hbw; have b1 := cell_keep a1 al hbw; have b2 := cell_keep a2 al hbw; have m0 := cell_keep l0 ll hbw; have m1 := cell_keep l1 ll hbw
          clear hx hin hxr hxh hfb est hmk hmb hbw
          go_wp2_with fail
          refine (distancesFrom_any _ mb (cellsL W H xs) (leapsL W H xs a b) xn _ (HOM.out.keep HBW.out) (by omega) (cellsL_mem.2 HXI.out) (cells_in HF.out) adj_in).mono ?_
          rintro e wu ⟨rfl, hb⟩
          have h64 := far_len64 HF.out HXI.out
          replace HBW := Lib.hid (below_next HBW.out hb)
          clear hb x0 b0 b1 b2 m0 m1
          go_wp2_with fail
          refine (greatest_any _ h64 _).mono ?_
          rintro e wv ⟨rfl, hb⟩
          rw [farF_max HF.out HXI.out]
          obtain ⟨fx, hfx⟩ : ∃ fx, fx = farF W H xs a b (xn : Int) := ⟨_, rfl⟩
          rw [← hfx]
          have HFX := Lib.hid hfx
          replace HBW := Lib.hid (below_next HBW.out hb)
          clear hb hfx h64
          go_wp2
          go_roundw
          case rel => exact ⟨k + 1, by omega, by go_num, by rw [EST.out, HFX.out, HMK.out], HBW.out⟩
          case measure => simp [intOf]; omega
        · obtain rfl : k = n1 := by omega
          have HB := Lib.hid (below_next B.out hbw)
          have eW : widTo W H xs a b k = widthV W H xs a b := by rw [widthV, if_pos HW.out, widTo, widTo, List.take_of_length_le (by have := SL.out; omega), List.take_length]
          rw [eW]
          clear hbw hmb eW
          go_wp2
          go_ret2
          exact ⟨by rw [HW.out]; rfl, HB.out⟩
    · have hw : wholeV W H xs a b = false := by rw [wholeV, HOK.out, show decide ((partsL W H xs a b).length = 1) = false by simpa using h1]; rfl
      have HW := Lib.hid hw
      rw [show decide ((partsL W H xs a b).length = 1) = false by simpa using h1]
      clear hw
      go_wp2
      go_ret2
      exact ⟨by rw [widthV, HW.out]; rfl, B.out⟩
  · have ho' : onB W H xs a b [] = false := by simpa using ho
    go_enter Try.func42, Try.ntmps42
    go_wp2_with fail
    refine (isLeaperOn_any _ _ _ _ _ _ _ _ _ _ _ [] _ ((ha.alloc _).alloc _) (Rd.nil _ _)).mono ?_
    rw [ho']
    rintro e wv ⟨rfl, hb⟩
    have hbx0 := below_box hb
    have a0 : wv.cell? ⟨w.heap.size, 0, none⟩ = some (.int .i64 W) := by simpa using newbox hbx0 0
    have a1 : wv.cell? ⟨w.heap.size, 1, none⟩ = some (.int .i64 H) := by simpa using newbox hbx0 1
    have a2 : wv.cell? ⟨w.heap.size, 2, none⟩ = some (.slice A n c) := by simpa using newbox hbx0 2
    have al : w.heap.size < wv.heap.size := by simpa using newbox_lt hbx0
    have l0 : wv.cell? ⟨w.heap.size + 1, 0, none⟩ = some (.int .i64 a) := by simpa using newbox hb 0
    have l1 : wv.cell? ⟨w.heap.size + 1, 1, none⟩ = some (.int .i64 b) := by simpa using newbox hb 1
    have ll : w.heap.size + 1 < wv.heap.size := by simpa using newbox_lt hb
    have B := Lib.hid (below_box hbx0)
    clear hb hbx0
    go_wp2
    go_ret2
    exact ⟨by rw [widthV, show wholeV W H xs a b = false by rw [wholeV, show okTwo W H xs a b = false by (rw [← onB_nil2, ho'])]; rfl]; rfl, B.out⟩

end Go.Proofs.Ytagdmdjofcjilaa
