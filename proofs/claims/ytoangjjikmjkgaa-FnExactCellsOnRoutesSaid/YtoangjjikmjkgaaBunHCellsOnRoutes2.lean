/-
  Cells on routes, in plain terms.
  Contracts: CellsOnRoutes, the model.
  Contracts: CellsOnRoutes, the program.
  Sizes of what is handed back: cells on routes.
  The walk of the exact law on CellsOnRoutes: it answers true, and what was there stays.
-/
import Derived.Test.YtoangjjikmjkgaaBunHCellsOnRoutes1
import Derived.Deep.RegionHeld3
import Derived.Test.YtoangjjikmjkgaaLaw0
namespace Go.Proofs.Ytoangjjikmjkgaa
open Go.RowKit

def routeSel (D1 D2 : List Int) (d : Int) (i : Nat) : Bool := decide (0 ≤ D1.getD i (-1) ∧ 0 ≤ D2.getD i (-1) ∧ D1.getD i (-1) + D2.getD i (-1) = d)
def onRoutesV (W H : Int) (xs : List Int) (a b p q : Int) : List Int := if onB W H xs a b [p, q] = true then selTo (routeSel (distL W H xs a b p) (distL W H xs a b q) (distV W H xs a b p q)) (W * H).toNat else []
theorem sel_filter {W H : Int} {hs : List Int} (f : Int → Bool) : ∀ k : Nat, (cellsTo W H hs k).filter f = selTo (fun i => hasB W H hs (i : Int) && f (i : Int)) k
  | 0 => rfl
  | k + 1 => by
    have ih := sel_filter (W := W) (H := H) (hs := hs) f k
    cases hh : hasB W H hs (k : Int) with
    | false => rw [cellsTo_no hh, ih, selTo_no (by simp [hh])]
    | true =>
      rw [cellsTo_yes hh, List.filter_append, ih]
      cases hf : f (k : Int) with
      | false => rw [selTo_no (by simp [hf])]; simp [hf]
      | true => rw [selTo_yes (by simp [hh, hf])]; simp [hf]
theorem leaps_sym {W H a b : Int} {hs : List Int} (x y : Int) (hx : hasB W H hs x = true) (hy : y ∈ leapsL W H hs a b x) : hasB W H hs y = true ∧ x ∈ leapsL W H hs a b y := by
  rw [leapsL, List.mem_filter] at hy
  refine ⟨cellsL_mem.1 hy.1, ?_⟩
  rw [leapsL, List.mem_filter]
  exact ⟨cellsL_mem.2 hx, by rw [leapB_comm]; exact hy.2⟩
theorem dist_lo {W H a b p : Int} {xs : List Int} {N : Nat} (h : OnFacts W H xs a b N) (hp : hasB W H xs p = true) {i : Nat} (hi : i < N) : -1 ≤ (distL W H xs a b p).getD i (-1) ∧ (distL W H xs a b p).getD i (-1) ≤ 64 := by
  have hl := dist_len h hp
  rw [List.getD_eq_getElem?_getD, List.getElem?_eq_getElem (by omega)]
  have hm : (distL W H xs a b p)[i]'(by omega) ∈ farL (leapsL W H xs a b) 144 p := by rw [far64 h hp]; exact List.mem_append_left _ (List.getElem_mem _)
  exact far_bd h hp _ hm
theorem on_reach {W H a b p q : Int} {xs : List Int} {N : Nat} (h : OnFacts W H xs a b N) (hp : hasB W H xs p = true) (hq : hasB W H xs q = true) (hd : 0 ≤ (distL W H xs a b p).getD q.toNat (-1)) {i : Nat} (hi : i < N) {d : Int} (hd0 : 0 ≤ d) :
    (hasB W H xs (i : Int) && decide ((distL W H xs a b p).getD i (-1) + (distL W H xs a b q).getD i (-1) = d)) = routeSel (distL W H xs a b p) (distL W H xs a b q) d i := by
  have hN : (W * H).toNat = N := by have := h.wh; omega
  have rg : ∀ x, hasB W H xs x = true → 0 ≤ x ∧ x < (N : Int) := fun x hx => by have := (hasB_iff.1 hx).1; rw [h.wh] at this; exact this
  have had : ∀ c : Int, 0 ≤ c ∧ c < (N : Int) → ∀ x ∈ leapsL W H xs a b c, 0 ≤ x ∧ x < (N : Int) := fun c _ x hx => leaps_in h.wh hx
  have b1 := dist_lo h hp hi
  have b2 := dist_lo h hq hi
  have e1 : distL W H xs a b p = farL (leapsL W H xs a b) N p := by rw [distL, hN]
  have e2 : distL W H xs a b q = farL (leapsL W H xs a b) N q := by rw [distL, hN]
  have back : 0 ≤ (farL (leapsL W H xs a b) N q).getD p.toNat (-1) := by
    have := far_symm (C := fun x => hasB W H xs x = true) rg leaps_sym hp had (i := q.toNat) (by rw [← e1]; exact hd)
    have := this.2
    rwa [Int.toNat_of_nonneg (rg q hq).1] at this
  have iff1 : 0 ≤ (distL W H xs a b p).getD i (-1) → 0 ≤ (distL W H xs a b q).getD i (-1) := fun hA => by
    rw [e2]; rw [e1] at hA
    exact far_trans (rg q hq) (rg p hp) had back hA
  have iff2 : 0 ≤ (distL W H xs a b q).getD i (-1) → 0 ≤ (distL W H xs a b p).getD i (-1) := fun hB => by
    rw [e1]; rw [e2] at hB; rw [e1] at hd
    exact far_trans (rg p hp) (rg q hq) had hd hB
  by_cases hA : 0 ≤ (distL W H xs a b p).getD i (-1)
  · have hB := iff1 hA
    have hh : hasB W H xs (i : Int) = true := by
      have := far_symm (C := fun x => hasB W H xs x = true) rg leaps_sym hp had (i := i) (by rw [← e1]; exact hA)
      exact this.1
    rw [hh, routeSel]
    simp only [Bool.true_and, decide_eq_decide]
    exact ⟨fun h => ⟨hA, hB, h⟩, fun h => h.2.2⟩
  · have hB : ¬ 0 ≤ (distL W H xs a b q).getD i (-1) := fun h => hA (iff2 h)
    rw [routeSel, decide_eq_false (show ¬ (distL W H xs a b p).getD i (-1) + (distL W H xs a b q).getD i (-1) = d by omega), Bool.and_false, decide_eq_false (fun h => hA h.1)]

end Go.Proofs.Ytoangjjikmjkgaa

namespace Go.Proofs.Ytoangjjikmjkgaa
open Go.RowKit

theorem below_drew {B : Nat} {a w : World} (h : Below B a w) : Below B a w.drew := ⟨h.os, h.tape, h.output, h.size, h.block⟩
theorem dist_bd2 {W H a b p : Int} {xs : List Int} {N : Nat} (h : OnFacts W H xs a b N) (hp : hasB W H xs p = true) : ∀ x ∈ distL W H xs a b p, -1 ≤ x ∧ x ≤ 64 := fun x hx => far_bd h hp x (by rw [far64 h hp]; exact List.mem_append_left _ hx)

set_option maxRecDepth 100000 in
set_option maxHeartbeats 8000000 in
theorem spec_CellsOnRoutes (W H : Int) (A : Option Addr) (n c : Nat) (xs : List Int) (a b : Int) (p : Int) (q : Int) (w : World) (ha : Rd w A n xs) :
    Calls Try.prog 31 #[brd W H A n c, lpr a b, .int .i64 p, .int .i64 q] w fun e w' => ∃ A' n' c', e = .returned (.tuple #[.slice A' n' c', .bool (onB W H xs a b [p, q])]) ∧ OwnI 3 w' w.heap.size A' n' c' (onRoutesV W H xs a b p q) ∧ Below w.heap.size w w' := by
  obtain ⟨i0, hi, hz0, hz1, hz2⟩ := info_parts infoI
  have HI := Lib.hid hi; have HZ0 := Lib.hid hz0; have HZ1 := Lib.hid hz1; have HZ2 := Lib.hid hz2
  clear hi hz0 hz1 hz2
  by_cases ho : onB W H xs a b [p, q] = true
  · have FO := on_facts (onB_two ho).1
    have HP := Lib.hid (onB_two ho).2.1
    have HQ := Lib.hid (onB_two ho).2.2
    obtain ⟨N, hN⟩ : ∃ N, N = (W * H).toNat := ⟨_, rfl⟩
    rw [← hN] at FO
    have hp0 := (hasB_iff.1 HP.out).1
    have hq0 := (hasB_iff.1 HQ.out).1
    rw [FO.wh] at hp0 hq0
    obtain ⟨s, rfl⟩ : ∃ s : Nat, p = (s : Int) := ⟨p.toNat, by omega⟩
    obtain ⟨t, rfl⟩ : ∃ t : Nat, q = (t : Int) := ⟨q.toNat, by omega⟩
    have hs : s < N := by omega
    have ht : t < N := by omega
    have HF := Lib.hid FO
    have n64 := FO.n.2
    have HD := Lib.hid (dist_at FO HP.out ht)
    have DLO := HD.out.2.1
    have DHI := HD.out.2.2
    have HO := Lib.hid ho
    obtain ⟨dv, hdv⟩ : ∃ dv, dv = distV W H xs a b (s : Int) (t : Int) := ⟨_, rfl⟩
    rw [← hdv] at DLO DHI
    have HDV := Lib.hid hdv
    have HWN := Lib.hid (show (W * H).toNat = N from hN.symm)
    have ANS : Hid (onRoutesV W H xs a b (s : Int) (t : Int) = selTo (routeSel (distL W H xs a b (s : Int)) (distL W H xs a b (t : Int)) dv) N) := Lib.hid (by rw [onRoutesV, if_pos ho, hdv, hN])
    clear FO hp0 hq0 hN hdv
    go_enter Try.func31, Try.ntmps31
    go_wp2_with fail
    refine (faAsked_any _ _ _ _ _ _ _ _ _ _ _ ((ha.alloc _).alloc _)).mono ?_
    rw [ho]
    rintro e wv ⟨rfl, hb⟩
    have hbx0 := below_box hb
    have a0 : wv.cell? ⟨w.heap.size, 0, none⟩ = some (.int .i64 W) := by simpa using newbox hbx0 0
    have a1 : wv.cell? ⟨w.heap.size, 1, none⟩ = some (.int .i64 H) := by simpa using newbox hbx0 1
    have a2 : wv.cell? ⟨w.heap.size, 2, none⟩ = some (.slice A n c) := by simpa using newbox hbx0 2
    have al : w.heap.size < wv.heap.size := by simpa using newbox_lt hbx0
    have l0 : wv.cell? ⟨w.heap.size + 1, 0, none⟩ = some (.int .i64 a) := by simpa using newbox hb 0
    have l1 : wv.cell? ⟨w.heap.size + 1, 1, none⟩ = some (.int .i64 b) := by simpa using newbox hb 1
    have ll : w.heap.size + 1 < wv.heap.size := by simpa using newbox_lt hb
    have B := Lib.hid (below_box hbx0)
    clear hb hbx0
    have RR := Lib.hid (ha.keep B.out)
    have HLOS := Lib.hid (show farL (leapsL W H xs a b) N (s : Int) = distL W H xs a b (s : Int) by rw [distL, HWN.out])
    have HLOT := Lib.hid (show farL (leapsL W H xs a b) N (t : Int) = distL W H xs a b (t : Int) by rw [distL, HWN.out])
    have HDT := Lib.hid (show (distL W H xs a b (s : Int))[t]? = some dv by rw [HDV.out]; exact HD.out.1)
    have BD1 := Lib.hid (dist_bd2 HF.out HP.out); have BD2 := Lib.hid (dist_bd2 HF.out HQ.out)
    have LE1 := Lib.hid (dist_len HF.out HP.out); have LE2 := Lib.hid (dist_len HF.out HQ.out)
    obtain ⟨D1, hD1⟩ : ∃ D, D = distL W H xs a b (s : Int) := ⟨_, rfl⟩
    obtain ⟨D2, hD2⟩ : ∃ D, D = distL W H xs a b (t : Int) := ⟨_, rfl⟩
    rw [← hD1] at ANS HLOS HDT BD1 LE1
    rw [← hD2] at ANS HLOT BD2 LE2
    clear hD1 hD2
    have t0 : (0 : Int) ≤ (t : Int) := by omega
    have t1 : (t : Int) < (N : Int) := by omega
    go_wp2_with fail
    refine wp_region_held_drew (S := fun w' => w'.cell? ⟨w.heap.size, 0, none⟩ = some (.int .i64 W) ∧ w'.cell? ⟨w.heap.size, 1, none⟩ = some (.int .i64 H) ∧ w'.cell? ⟨w.heap.size, 2, none⟩ = some (.slice A n c) ∧ w'.cell? ⟨w.heap.size + 1, 0, none⟩ = some (.int .i64 a) ∧ w'.cell? ⟨w.heap.size + 1, 1, none⟩ = some (.int .i64 b)) (by kernel_rfl) ?_ (fun hHeld => ?_)
    · (try dsimp only)
      exact ⟨a0, a1, a2, l0, l1⟩
    refine wpAnyH_take (i := 0) (oi := ⟨_, _, _, _, _, _⟩) (v := ?_) rfl (by kernel_rfl) (by kernel_rfl) (by kernel_rfl) (fun _ _ _ h => h) (Or.inl ⟨by rfl, ?_⟩) (by assumption) ?_
    rotate_left
    · intro w hSw
      (try dsimp only at hSw)
      go_simp
      (try with_reducible rfl)
    (try simp only [Act.put, List.setIfInBounds_toArray, List.set_cons_zero, List.set_cons_succ])
    refine wpAnyH_take (i := 1) (oi := ⟨_, _, _, _, _, _⟩) (v := ?_) rfl (by kernel_rfl) (by kernel_rfl) (by kernel_rfl) (fun _ _ _ h => h) (Or.inl ⟨by rfl, ?_⟩) (by assumption) ?_
    rotate_left
    · intro w hSw
      (try dsimp only at hSw)
      go_simp
      (try with_reducible rfl)
    (try simp only [Act.put, List.setIfInBounds_toArray, List.set_cons_zero, List.set_cons_succ])
    refine wpAnyH_take (i := 2) (oi := ⟨_, _, _, _, _, _⟩) (v := ?_) rfl (by kernel_rfl) (by kernel_rfl) (by kernel_rfl) (fun _ _ _ h => h) (Or.inl ⟨by rfl, ?_⟩) (by assumption) ?_
    rotate_left
    · intro w hSw
      (try dsimp only at hSw)
      go_simp
      (try with_reducible rfl)
    (try simp only [Act.put, List.setIfInBounds_toArray, List.set_cons_zero, List.set_cons_succ])
    refine wpAnyH_take (i := 4) (oi := ⟨_, _, _, _, _, _⟩) (v := ?_) rfl (by kernel_rfl) (by kernel_rfl) (by kernel_rfl) (fun _ _ _ h => h) (Or.inl ⟨by rfl, ?_⟩) (by assumption) ?_
    rotate_left
    · intro w hSw
      (try dsimp only at hSw)
      go_simp
      (try with_reducible rfl)
    (try simp only [Act.put, List.setIfInBounds_toArray, List.set_cons_zero, List.set_cons_succ])
    refine wpAnyH_take (i := 5) (oi := ⟨_, _, _, _, _, _⟩) (v := ?_) rfl (by kernel_rfl) (by kernel_rfl) (by kernel_rfl) (fun _ _ _ h => h) (Or.inl ⟨by rfl, ?_⟩) (by assumption) ?_
    rotate_left
    · intro w hSw
      (try dsimp only at hSw)
      go_simp
      (try with_reducible rfl)
    (try simp only [Act.put, List.setIfInBounds_toArray, List.set_cons_zero, List.set_cons_succ])
    refine wpAnyH_take (i := 6) (oi := ⟨_, _, _, _, _, _⟩) (v := ?_) rfl (by kernel_rfl) (by kernel_rfl) (by kernel_rfl) (fun _ _ _ h => h) (Or.inl ⟨by rfl, ?_⟩) (by assumption) ?_
    rotate_left
    · intro w hSw
      (try dsimp only at hSw)
      go_simp
      (try with_reducible rfl)
    (try simp only [Act.put, List.setIfInBounds_toArray, List.set_cons_zero, List.set_cons_succ])
    refine wpAnyH_ready (rs := [3]) (by kernel_rfl) (by simp) ?_
    refine AllReadyH.cons (o := ⟨_, _, _, _, _, _⟩) rfl (fun K hK => ?_) AllReadyH.nil
    go_simp
    (go_at_call 35; refine (faFrom_any W H A n c xs a b s N _ ?_ ?_ ?_ ?_).mono ?_; (first | exact RR.out | exact RR.out.drew1 | exact RR.out.drewN _); (exact HF.out.g); (exact HF.out.wh); (exact hs); rintro e wv ⟨gs, rfl, own, hb⟩; (repeat (first | replace hb := below_undrew hb | replace hb := below_undrewN' hb)); rw [HLOS.out] at own; have OS := Lib.hid own; clear own; (try replace OT := Lib.hid (OT.out.keep hb)); replace RR := Lib.hid (RR.out.keep hb); replace a0 := cell_keep a0 al hb; replace a1 := cell_keep a1 al hb; replace a2 := cell_keep a2 al hb; replace l0 := cell_keep l0 ll hb; replace l1 := cell_keep l1 ll hb; replace al := lt_keep al hb; replace ll := lt_keep ll hb; replace B := Lib.hid (below_next B.out hb); clear hb)
    (try go_wp2_with fail)
    refine hK.out _ _ ?_ (fun hHeld => ?_)
    · (try dsimp only)
      exact ⟨a0, a1, a2, l0, l1⟩
    clear hK K
    (try simp only [Act.put, List.setIfInBounds_toArray, List.set_cons_zero, List.set_cons_succ])
    refine wpAnyH_ready (rs := [7]) (by kernel_rfl) (by simp) ?_
    refine AllReadyH.cons (o := ⟨_, _, _, _, _, _⟩) rfl (fun K hK => ?_) AllReadyH.nil
    go_simp
    (go_at_call 35; refine (faFrom_any W H A n c xs a b t N _ ?_ ?_ ?_ ?_).mono ?_; (first | exact RR.out | exact RR.out.drew1 | exact RR.out.drewN _); (exact HF.out.g); (exact HF.out.wh); (exact ht); rintro e wv ⟨gt, rfl, own, hb⟩; (repeat (first | replace hb := below_undrew hb | replace hb := below_undrewN' hb)); rw [HLOT.out] at own; have OT := Lib.hid own; clear own; (try replace OS := Lib.hid (OS.out.keep hb)); replace RR := Lib.hid (RR.out.keep hb); replace a0 := cell_keep a0 al hb; replace a1 := cell_keep a1 al hb; replace a2 := cell_keep a2 al hb; replace l0 := cell_keep l0 ll hb; replace l1 := cell_keep l1 ll hb; replace al := lt_keep al hb; replace ll := lt_keep ll hb; replace B := Lib.hid (below_next B.out hb); clear hb)
    (try go_wp2_with fail)
    refine hK.out _ _ ?_ (fun hHeld => ?_)
    · (try dsimp only)
      exact ⟨a0, a1, a2, l0, l1⟩
    clear hK K
    (try simp only [Act.put, List.setIfInBounds_toArray, List.set_cons_zero, List.set_cons_succ])
    refine wpAnyH_take (i := 8) (oi := ⟨_, _, _, _, _, _⟩) (v := ?_) rfl (by kernel_rfl) (by kernel_rfl) (by kernel_rfl) (fun _ _ _ h => h) (Or.inl ⟨by rfl, ?_⟩) (by assumption) ?_
    rotate_left
    · intro w hSw
      (try dsimp only at hSw)
      go_simp
      (try with_reducible rfl)
    (try simp only [Act.put, List.setIfInBounds_toArray, List.set_cons_zero, List.set_cons_succ])
    refine wpAnyH_take (i := 9) (oi := ⟨_, _, _, _, _, _⟩) (v := ?_) rfl (by kernel_rfl) (by kernel_rfl) (by kernel_rfl) (fun _ _ _ h => h) (Or.inl ⟨by rfl, ?_⟩) (by assumption) ?_
    rotate_left
    · intro w hSw
      (try dsimp only at hSw)
      go_simp
      (try with_reducible rfl)
    (try simp only [Act.put, List.setIfInBounds_toArray, List.set_cons_zero, List.set_cons_succ])
    refine wpAnyH_done (by kernel_rfl) ?_ _
    clear RR
    obtain ⟨wx, hwx⟩ : ∃ wx : World, wx = wv := ⟨_, rfl⟩
    subst hwx
    go_wp2
    go_loopw [12, 30] (fun v i wr => ∃ (k n' c' : Nat) (A' : Option Addr), k ≤ N ∧ i = .int .i64 k ∧ v = .slice A' n' c' ∧ OwnI 3 wr wx.heap.size A' n' c' (selTo (routeSel D1 D2 dv) k) ∧ Below wx.heap.size wx wr) (fun _ i _ => N - (intOf i).toNat)
    case atStart => exact ⟨0, 0, 0, none, by omega, rfl, rfl, OwnI.none_ _ _ _, Below.refl _ _⟩
    case round =>
      obtain ⟨k, n', c', A', hk, rfl, rfl, hown, hbw⟩ := hrel
      have hbsz := hbw.size
      by_cases hlt : k < N
      · obtain ⟨x1, hx1⟩ : ∃ x, D1[k]? = some x := ⟨_, List.getElem?_eq_getElem (show k < D1.length by have := LE1.out; omega)⟩
        obtain ⟨x2, hx2⟩ : ∃ x, D2[k]? = some x := ⟨_, List.getElem?_eq_getElem (show k < D2.length by have := LE2.out; omega)⟩
        have c1 := (OS.out.keep hbw).cell hx1
        have c2 := (OT.out.keep hbw).cell hx2
        have c3 := (OS.out.keep hbw).cell HDT.out
        have hb1 := BD1.out x1 (List.mem_of_getElem? hx1)
        have hb2 := BD2.out x2 (List.mem_of_getElem? hx2)
        have hn' : n' ≤ 64 := by have := selTo_len (routeSel D1 D2 dv) k; have := hown.len; omega
        have g1 : D1.getD k (-1) = x1 := by rw [List.getD_eq_getElem?_getD, hx1]; rfl
        have g2 : D2.getD k (-1) = x2 := by rw [List.getD_eq_getElem?_getD, hx2]; rfl
        have SEL : Hid (routeSel D1 D2 dv k = decide (0 ≤ x1 ∧ 0 ≤ x2 ∧ x1 + x2 = dv)) := Lib.hid (by rw [routeSel, g1, g2])
        have k0 : (0 : Int) ≤ (k : Int) := by omega
        have k1 : (k : Int) < (N : Int) := by omega
        have hwr : IntKind.i64.wrap (x1 + x2) = x1 + x2 := IntWalk.i64_in _ (by omega)
        have HO2 := Lib.hid hown; have HB := Lib.hid hbw
        clear hx1 hx2 hown hbw g1 g2 hb1 hb2
        by_cases hA : 0 ≤ x1
        · by_cases hB2 : 0 ≤ x2
          · by_cases hE : x1 + x2 = dv
            · have hYS : routeSel D1 D2 dv k = true := by rw [SEL.out]; simpa using ⟨hA, hB2, hE⟩
              have YS := Lib.hid hYS
              have hE' : (x1 + x2 == dv) = true := by simpa using hE
              clear hYS hE
              go_wp2_with fail
              refine wp_region_held_drew (S := fun w' => w'.cell? ⟨gs, k, none⟩ = some (.int .i64 x1) ∧ w'.cell? ⟨gt, k, none⟩ = some (.int .i64 x2) ∧ w'.cell? ⟨gs, t, none⟩ = some (.int .i64 dv)) (by kernel_rfl) ?_ (fun hHeld => ?_)
              · (try dsimp only)
                exact ⟨c1, c2, c3⟩
              refine wpAnyH_take (i := 0) (oi := ⟨_, _, _, _, _, _⟩) (v := ?_) rfl (by kernel_rfl) (by kernel_rfl) (by kernel_rfl) (fun _ _ _ h => h) (Or.inl ⟨by rfl, ?_⟩) (by assumption) ?_
              rotate_left
              · intro w hSw
                (try dsimp only at hSw)
                go_simp
                (try with_reducible rfl)
              (try simp only [Act.put, List.setIfInBounds_toArray, List.set_cons_zero, List.set_cons_succ])
              refine wpAnyH_take (i := 1) (oi := ⟨_, _, _, _, _, _⟩) (v := ?_) rfl (by kernel_rfl) (by kernel_rfl) (by kernel_rfl) (fun _ _ _ h => h) (Or.inl ⟨by rfl, ?_⟩) (by assumption) ?_
              rotate_left
              · intro w hSw
                (try dsimp only at hSw)
                go_simp
                (try with_reducible rfl)
              (try simp only [Act.put, List.setIfInBounds_toArray, List.set_cons_zero, List.set_cons_succ])
              refine wpAnyH_take (i := 2) (oi := ⟨_, _, _, _, _, _⟩) (v := ?_) rfl (by kernel_rfl) (by kernel_rfl) (by kernel_rfl) (fun _ _ _ h => h) (Or.inl ⟨by rfl, ?_⟩) (by assumption) ?_
              rotate_left
              · intro w hSw
                (try dsimp only at hSw)
                go_simp
                (try with_reducible rfl)
              (try simp only [Act.put, List.setIfInBounds_toArray, List.set_cons_zero, List.set_cons_succ])
              refine wpAnyH_take (i := 3) (oi := ⟨_, _, _, _, _, _⟩) (v := ?_) rfl (by kernel_rfl) (by kernel_rfl) (by kernel_rfl) (fun _ _ _ h => h) (Or.inl ⟨by rfl, ?_⟩) (by assumption) ?_
              rotate_left
              · intro w hSw
                (try dsimp only at hSw)
                go_simp
                (try with_reducible rfl)
              (try simp only [Act.put, List.setIfInBounds_toArray, List.set_cons_zero, List.set_cons_succ])
              refine wpAnyH_take (i := 4) (oi := ⟨_, _, _, _, _, _⟩) (v := ?_) rfl (by kernel_rfl) (by kernel_rfl) (by kernel_rfl) (fun _ _ _ h => h) (Or.inl ⟨by rfl, ?_⟩) (by assumption) ?_
              rotate_left
              · intro w hSw
                (try dsimp only at hSw)
                go_simp
                (try with_reducible rfl)
              (try simp only [Act.put, List.setIfInBounds_toArray, List.set_cons_zero, List.set_cons_succ])
              refine wpAnyH_take (i := 5) (oi := ⟨_, _, _, _, _, _⟩) (v := ?_) rfl (by kernel_rfl) (by kernel_rfl) (by kernel_rfl) (fun _ _ _ h => h) (Or.inl ⟨by rfl, ?_⟩) (by assumption) ?_
              rotate_left
              · intro w hSw
                (try dsimp only at hSw)
                go_simp
                (try with_reducible rfl)
              (try simp only [Act.put, List.setIfInBounds_toArray, List.set_cons_zero, List.set_cons_succ])
              refine wpAnyH_take (i := 6) (oi := ⟨_, _, _, _, _, _⟩) (v := ?_) rfl (by kernel_rfl) (by kernel_rfl) (by kernel_rfl) (fun _ _ _ h => h) (Or.inl ⟨by rfl, ?_⟩) (by assumption) ?_
              rotate_left
              · intro w hSw
                (try dsimp only at hSw)
                go_simp
                (try with_reducible rfl)
              (try simp only [Act.put, List.setIfInBounds_toArray, List.set_cons_zero, List.set_cons_succ])
              refine wpAnyH_take (i := 7) (oi := ⟨_, _, _, _, _, _⟩) (v := ?_) rfl (by kernel_rfl) (by kernel_rfl) (by kernel_rfl) (fun _ _ _ h => h) (Or.inl ⟨by rfl, ?_⟩) (by assumption) ?_
              rotate_left
              · intro w hSw
                (try dsimp only at hSw)
                go_simp
                (try with_reducible rfl)
              (try simp only [Act.put, List.setIfInBounds_toArray, List.set_cons_zero, List.set_cons_succ])
              refine wpAnyH_take (i := 8) (oi := ⟨_, _, _, _, _, _⟩) (v := ?_) rfl (by kernel_rfl) (by kernel_rfl) (by kernel_rfl) (fun _ _ _ h => h) (Or.inl ⟨by rfl, ?_⟩) (by assumption) ?_
              rotate_left
              · intro w hSw
                (try dsimp only at hSw)
                go_simp
                (try with_reducible rfl)
              (try simp only [Act.put, List.setIfInBounds_toArray, List.set_cons_zero, List.set_cons_succ])
              refine wpAnyH_take (i := 9) (oi := ⟨_, _, _, _, _, _⟩) (v := ?_) rfl (by kernel_rfl) (by kernel_rfl) (by kernel_rfl) (fun _ _ _ h => h) (Or.inl ⟨by rfl, ?_⟩) (by assumption) ?_
              rotate_left
              · intro w hSw
                (try dsimp only at hSw)
                go_simp
                (try with_reducible rfl)
              (try simp only [Act.put, List.setIfInBounds_toArray, List.set_cons_zero, List.set_cons_succ])
              refine wpAnyH_take (i := 10) (oi := ⟨_, _, _, _, _, _⟩) (v := ?_) rfl (by kernel_rfl) (by kernel_rfl) (by kernel_rfl) (fun _ _ _ h => h) (Or.inl ⟨by rfl, ?_⟩) (by assumption) ?_
              rotate_left
              · intro w hSw
                (try dsimp only at hSw)
                go_simp
                (try with_reducible rfl)
              (try simp only [Act.put, List.setIfInBounds_toArray, List.set_cons_zero, List.set_cons_succ])
              refine wpAnyH_take (i := 11) (oi := ⟨_, _, _, _, _, _⟩) (v := ?_) rfl (by kernel_rfl) (by kernel_rfl) (by kernel_rfl) (fun _ _ _ h => h) (Or.inl ⟨by rfl, ?_⟩) (by assumption) ?_
              rotate_left
              · intro w hSw
                (try dsimp only at hSw)
                go_simp
                (try with_reducible rfl)
              (try simp only [Act.put, List.setIfInBounds_toArray, List.set_cons_zero, List.set_cons_succ])
              refine wpAnyH_take (i := 12) (oi := ⟨_, _, _, _, _, _⟩) (v := ?_) rfl (by kernel_rfl) (by kernel_rfl) (by kernel_rfl) (fun _ _ _ h => h) (Or.inl ⟨by rfl, ?_⟩) (by assumption) ?_
              rotate_left
              · intro w hSw
                (try dsimp only at hSw)
                go_simp
                (try with_reducible rfl)
              (try simp only [Act.put, List.setIfInBounds_toArray, List.set_cons_zero, List.set_cons_succ])
              refine wpAnyH_take (i := 13) (oi := ⟨_, _, _, _, _, _⟩) (v := ?_) rfl (by kernel_rfl) (by kernel_rfl) (by kernel_rfl) (fun _ _ _ h => h) (Or.inl ⟨by rfl, ?_⟩) (by assumption) ?_
              rotate_left
              · intro w hSw
                (try dsimp only at hSw)
                go_simp
                (try with_reducible rfl)
              (try simp only [Act.put, List.setIfInBounds_toArray, List.set_cons_zero, List.set_cons_succ])
              refine wpAnyH_take (i := 14) (oi := ⟨_, _, _, _, _, _⟩) (v := ?_) rfl (by kernel_rfl) (by kernel_rfl) (by kernel_rfl) (fun _ _ _ h => h) (Or.inl ⟨by rfl, ?_⟩) (by assumption) ?_
              rotate_left
              · intro w hSw
                (try dsimp only at hSw)
                go_simp
                (try with_reducible rfl)
              (try simp only [Act.put, List.setIfInBounds_toArray, List.set_cons_zero, List.set_cons_succ])
              refine wpAnyH_take (i := 15) (oi := ⟨_, _, _, _, _, _⟩) (v := ?_) rfl (by kernel_rfl) (by kernel_rfl) (by kernel_rfl) (fun _ _ _ h => h) (Or.inl ⟨by rfl, ?_⟩) (by assumption) ?_
              rotate_left
              · intro w hSw
                (try dsimp only at hSw)
                go_simp
                (try with_reducible rfl)
              (try simp only [Act.put, List.setIfInBounds_toArray, List.set_cons_zero, List.set_cons_succ])
              refine wpAnyH_take (i := 16) (oi := ⟨_, _, _, _, _, _⟩) (v := ?_) rfl (by kernel_rfl) (by kernel_rfl) (by kernel_rfl) (fun _ _ _ h => h) (Or.inl ⟨by rfl, ?_⟩) (by assumption) ?_
              rotate_left
              · intro w hSw
                (try dsimp only at hSw)
                go_simp
                (try with_reducible rfl)
              (try simp only [Act.put, List.setIfInBounds_toArray, List.set_cons_zero, List.set_cons_succ])
              refine wpAnyH_take (i := 17) (oi := ⟨_, _, _, _, _, _⟩) (v := ?_) rfl (by kernel_rfl) (by kernel_rfl) (by kernel_rfl) (fun _ _ _ h => h) (Or.inl ⟨by rfl, ?_⟩) (by assumption) ?_
              rotate_left
              · intro w hSw
                (try dsimp only at hSw)
                go_simp
                (try with_reducible rfl)
              (try simp only [Act.put, List.setIfInBounds_toArray, List.set_cons_zero, List.set_cons_succ])
              refine wpAnyH_take (i := 18) (oi := ⟨_, _, _, _, _, _⟩) (v := ?_) rfl (by kernel_rfl) (by kernel_rfl) (by kernel_rfl) (fun _ _ _ h => h) (Or.inl ⟨by rfl, ?_⟩) (by assumption) ?_
              rotate_left
              · intro w hSw
                (try dsimp only at hSw)
                go_simp
                (try with_reducible rfl)
              (try simp only [Act.put, List.setIfInBounds_toArray, List.set_cons_zero, List.set_cons_succ])
              refine wpAnyH_take (i := 19) (oi := ⟨_, _, _, _, _, _⟩) (v := ?_) rfl (by kernel_rfl) (by kernel_rfl) (by kernel_rfl) (fun _ _ _ h => h) (Or.inl ⟨by rfl, ?_⟩) (by assumption) ?_
              rotate_left
              · intro w hSw
                (try dsimp only at hSw)
                go_simp
                (try with_reducible rfl)
              (try simp only [Act.put, List.setIfInBounds_toArray, List.set_cons_zero, List.set_cons_succ])
              refine wpAnyH_take (i := 20) (oi := ⟨_, _, _, _, _, _⟩) (v := ?_) rfl (by kernel_rfl) (by kernel_rfl) (by kernel_rfl) (fun _ _ _ h => h) (Or.inl ⟨by rfl, ?_⟩) (by assumption) ?_
              rotate_left
              · intro w hSw
                (try dsimp only at hSw)
                go_simp
                (try with_reducible rfl)
              (try simp only [Act.put, List.setIfInBounds_toArray, List.set_cons_zero, List.set_cons_succ])
              refine wpAnyH_take (i := 21) (oi := ⟨_, _, _, _, _, _⟩) (v := ?_) rfl (by kernel_rfl) (by kernel_rfl) (by kernel_rfl) (fun _ _ _ h => h) (Or.inl ⟨by rfl, ?_⟩) (by assumption) ?_
              rotate_left
              · intro w hSw
                (try dsimp only at hSw)
                go_simp
                (try with_reducible rfl)
              (try simp only [Act.put, List.setIfInBounds_toArray, List.set_cons_zero, List.set_cons_succ])
              refine wpAnyH_take (i := 22) (oi := ⟨_, _, _, _, _, _⟩) (v := ?_) rfl (by kernel_rfl) (by kernel_rfl) (by kernel_rfl) (fun _ _ _ h => h) (Or.inl ⟨by rfl, ?_⟩) (by assumption) ?_
              rotate_left
              · intro w hSw
                (try dsimp only at hSw)
                go_simp
                (try with_reducible rfl)
              (try simp only [Act.put, List.setIfInBounds_toArray, List.set_cons_zero, List.set_cons_succ])
              refine wpAnyH_take (i := 23) (oi := ⟨_, _, _, _, _, _⟩) (v := ?_) rfl (by kernel_rfl) (by kernel_rfl) (by kernel_rfl) (fun _ _ _ h => h) (Or.inl ⟨by rfl, ?_⟩) (by assumption) ?_
              rotate_left
              · intro w hSw
                (try dsimp only at hSw)
                go_simp
                (try with_reducible rfl)
              (try simp only [Act.put, List.setIfInBounds_toArray, List.set_cons_zero, List.set_cons_succ])
              refine wpAnyH_take (i := 24) (oi := ⟨_, _, _, _, _, _⟩) (v := ?_) rfl (by kernel_rfl) (by kernel_rfl) (by kernel_rfl) (fun _ _ _ h => h) (Or.inl ⟨by rfl, ?_⟩) (by assumption) ?_
              rotate_left
              · intro w hSw
                (try dsimp only at hSw)
                go_simp
                (try with_reducible rfl)
              (try simp only [Act.put, List.setIfInBounds_toArray, List.set_cons_zero, List.set_cons_succ])
              refine wpAnyH_take (i := 25) (oi := ⟨_, _, _, _, _, _⟩) (v := ?_) rfl (by kernel_rfl) (by kernel_rfl) (by kernel_rfl) (fun _ _ _ h => h) (Or.inl ⟨by rfl, ?_⟩) (by assumption) ?_
              rotate_left
              · intro w hSw
                (try dsimp only at hSw)
                go_simp
                (try with_reducible rfl)
              (try simp only [Act.put, List.setIfInBounds_toArray, List.set_cons_zero, List.set_cons_succ])
              refine wpAnyH_take (i := 26) (oi := ⟨_, _, _, _, _, _⟩) (v := ?_) rfl (by kernel_rfl) (by kernel_rfl) (by kernel_rfl) (fun _ _ _ h => h) (Or.inl ⟨by rfl, ?_⟩) (by assumption) ?_
              rotate_left
              · intro w hSw
                (try dsimp only at hSw)
                go_simp
                (try with_reducible rfl)
              (try simp only [Act.put, List.setIfInBounds_toArray, List.set_cons_zero, List.set_cons_succ])
              refine wpAnyH_take (i := 27) (oi := ⟨_, _, _, _, _, _⟩) (v := ?_) rfl (by kernel_rfl) (by kernel_rfl) (by kernel_rfl) (fun _ _ _ h => h) (Or.inl ⟨by rfl, ?_⟩) (by assumption) ?_
              rotate_left
              · intro w hSw
                (try dsimp only at hSw)
                go_simp
                (try with_reducible rfl)
              (try simp only [Act.put, List.setIfInBounds_toArray, List.set_cons_zero, List.set_cons_succ])
              refine wpAnyH_done (by kernel_rfl) ?_ _
              replace HB := Lib.hid (below_drew HB.out); replace HO2 := Lib.hid HO2.out.drew1
              have hbsz2 := HB.out.size
              clear c1 c2 c3 hbsz
              generalize wr.drew = wd at *
              go_wp2_with (at_builtin; refine wpList_app1 rfl (.tmp 61) (.tmp 63) 22 3 rfl i0 Try.underlying22 HI.out HZ0.out HZ1.out HZ2.out wx.heap.size A' n' c' (selTo (routeSel D1 D2 dv) k) (k : Int) rfl HO2.out rfl (by omega) hbsz2 ?_; intro A2 c2' w2 hown2 hb2')
              have HO3 := Lib.hid hown2; have HB2 := Lib.hid (HB.out.trans hb2')
              clear hown2 hb2'
              go_wp2
              go_roundw
              case rel => exact ⟨k + 1, n' + 1, c2', A2, by omega, by go_num, rfl, by rw [selTo_yes YS.out]; exact HO3.out, HB2.out⟩
              case measure => simp [intOf]; omega
            · have hNS : routeSel D1 D2 dv k = false := by rw [SEL.out]; simp; omega
              have NS := Lib.hid hNS
              have hE' : (x1 + x2 == dv) = false := by simpa using hE
              clear hNS
              go_wp2_with fail
              refine wp_region_held_drew (S := fun w' => w'.cell? ⟨gs, k, none⟩ = some (.int .i64 x1) ∧ w'.cell? ⟨gt, k, none⟩ = some (.int .i64 x2) ∧ w'.cell? ⟨gs, t, none⟩ = some (.int .i64 dv)) (by kernel_rfl) ?_ (fun hHeld => ?_)
              · (try dsimp only)
                exact ⟨c1, c2, c3⟩
              refine wpAnyH_take (i := 0) (oi := ⟨_, _, _, _, _, _⟩) (v := ?_) rfl (by kernel_rfl) (by kernel_rfl) (by kernel_rfl) (fun _ _ _ h => h) (Or.inl ⟨by rfl, ?_⟩) (by assumption) ?_
              rotate_left
              · intro w hSw
                (try dsimp only at hSw)
                go_simp
                (try with_reducible rfl)
              (try simp only [Act.put, List.setIfInBounds_toArray, List.set_cons_zero, List.set_cons_succ])
              refine wpAnyH_take (i := 1) (oi := ⟨_, _, _, _, _, _⟩) (v := ?_) rfl (by kernel_rfl) (by kernel_rfl) (by kernel_rfl) (fun _ _ _ h => h) (Or.inl ⟨by rfl, ?_⟩) (by assumption) ?_
              rotate_left
              · intro w hSw
                (try dsimp only at hSw)
                go_simp
                (try with_reducible rfl)
              (try simp only [Act.put, List.setIfInBounds_toArray, List.set_cons_zero, List.set_cons_succ])
              refine wpAnyH_take (i := 2) (oi := ⟨_, _, _, _, _, _⟩) (v := ?_) rfl (by kernel_rfl) (by kernel_rfl) (by kernel_rfl) (fun _ _ _ h => h) (Or.inl ⟨by rfl, ?_⟩) (by assumption) ?_
              rotate_left
              · intro w hSw
                (try dsimp only at hSw)
                go_simp
                (try with_reducible rfl)
              (try simp only [Act.put, List.setIfInBounds_toArray, List.set_cons_zero, List.set_cons_succ])
              refine wpAnyH_take (i := 3) (oi := ⟨_, _, _, _, _, _⟩) (v := ?_) rfl (by kernel_rfl) (by kernel_rfl) (by kernel_rfl) (fun _ _ _ h => h) (Or.inl ⟨by rfl, ?_⟩) (by assumption) ?_
              rotate_left
              · intro w hSw
                (try dsimp only at hSw)
                go_simp
                (try with_reducible rfl)
              (try simp only [Act.put, List.setIfInBounds_toArray, List.set_cons_zero, List.set_cons_succ])
              refine wpAnyH_take (i := 4) (oi := ⟨_, _, _, _, _, _⟩) (v := ?_) rfl (by kernel_rfl) (by kernel_rfl) (by kernel_rfl) (fun _ _ _ h => h) (Or.inl ⟨by rfl, ?_⟩) (by assumption) ?_
              rotate_left
              · intro w hSw
                (try dsimp only at hSw)
                go_simp
                (try with_reducible rfl)
              (try simp only [Act.put, List.setIfInBounds_toArray, List.set_cons_zero, List.set_cons_succ])
              refine wpAnyH_take (i := 5) (oi := ⟨_, _, _, _, _, _⟩) (v := ?_) rfl (by kernel_rfl) (by kernel_rfl) (by kernel_rfl) (fun _ _ _ h => h) (Or.inl ⟨by rfl, ?_⟩) (by assumption) ?_
              rotate_left
              · intro w hSw
                (try dsimp only at hSw)
                go_simp
                (try with_reducible rfl)
              (try simp only [Act.put, List.setIfInBounds_toArray, List.set_cons_zero, List.set_cons_succ])
              refine wpAnyH_take (i := 6) (oi := ⟨_, _, _, _, _, _⟩) (v := ?_) rfl (by kernel_rfl) (by kernel_rfl) (by kernel_rfl) (fun _ _ _ h => h) (Or.inl ⟨by rfl, ?_⟩) (by assumption) ?_
              rotate_left
              · intro w hSw
                (try dsimp only at hSw)
                go_simp
                (try with_reducible rfl)
              (try simp only [Act.put, List.setIfInBounds_toArray, List.set_cons_zero, List.set_cons_succ])
              refine wpAnyH_take (i := 7) (oi := ⟨_, _, _, _, _, _⟩) (v := ?_) rfl (by kernel_rfl) (by kernel_rfl) (by kernel_rfl) (fun _ _ _ h => h) (Or.inl ⟨by rfl, ?_⟩) (by assumption) ?_
              rotate_left
              · intro w hSw
                (try dsimp only at hSw)
                go_simp
                (try with_reducible rfl)
              (try simp only [Act.put, List.setIfInBounds_toArray, List.set_cons_zero, List.set_cons_succ])
              refine wpAnyH_take (i := 8) (oi := ⟨_, _, _, _, _, _⟩) (v := ?_) rfl (by kernel_rfl) (by kernel_rfl) (by kernel_rfl) (fun _ _ _ h => h) (Or.inl ⟨by rfl, ?_⟩) (by assumption) ?_
              rotate_left
              · intro w hSw
                (try dsimp only at hSw)
                go_simp
                (try with_reducible rfl)
              (try simp only [Act.put, List.setIfInBounds_toArray, List.set_cons_zero, List.set_cons_succ])
              refine wpAnyH_take (i := 9) (oi := ⟨_, _, _, _, _, _⟩) (v := ?_) rfl (by kernel_rfl) (by kernel_rfl) (by kernel_rfl) (fun _ _ _ h => h) (Or.inl ⟨by rfl, ?_⟩) (by assumption) ?_
              rotate_left
              · intro w hSw
                (try dsimp only at hSw)
                go_simp
                (try with_reducible rfl)
              (try simp only [Act.put, List.setIfInBounds_toArray, List.set_cons_zero, List.set_cons_succ])
              refine wpAnyH_take (i := 10) (oi := ⟨_, _, _, _, _, _⟩) (v := ?_) rfl (by kernel_rfl) (by kernel_rfl) (by kernel_rfl) (fun _ _ _ h => h) (Or.inl ⟨by rfl, ?_⟩) (by assumption) ?_
              rotate_left
              · intro w hSw
                (try dsimp only at hSw)
                go_simp
                (try with_reducible rfl)
              (try simp only [Act.put, List.setIfInBounds_toArray, List.set_cons_zero, List.set_cons_succ])
              refine wpAnyH_take (i := 11) (oi := ⟨_, _, _, _, _, _⟩) (v := ?_) rfl (by kernel_rfl) (by kernel_rfl) (by kernel_rfl) (fun _ _ _ h => h) (Or.inl ⟨by rfl, ?_⟩) (by assumption) ?_
              rotate_left
              · intro w hSw
                (try dsimp only at hSw)
                go_simp
                (try with_reducible rfl)
              (try simp only [Act.put, List.setIfInBounds_toArray, List.set_cons_zero, List.set_cons_succ])
              refine wpAnyH_take (i := 12) (oi := ⟨_, _, _, _, _, _⟩) (v := ?_) rfl (by kernel_rfl) (by kernel_rfl) (by kernel_rfl) (fun _ _ _ h => h) (Or.inl ⟨by rfl, ?_⟩) (by assumption) ?_
              rotate_left
              · intro w hSw
                (try dsimp only at hSw)
                go_simp
                (try with_reducible rfl)
              (try simp only [Act.put, List.setIfInBounds_toArray, List.set_cons_zero, List.set_cons_succ])
              refine wpAnyH_take (i := 13) (oi := ⟨_, _, _, _, _, _⟩) (v := ?_) rfl (by kernel_rfl) (by kernel_rfl) (by kernel_rfl) (fun _ _ _ h => h) (Or.inl ⟨by rfl, ?_⟩) (by assumption) ?_
              rotate_left
              · intro w hSw
                (try dsimp only at hSw)
                go_simp
                (try with_reducible rfl)
              (try simp only [Act.put, List.setIfInBounds_toArray, List.set_cons_zero, List.set_cons_succ])
              refine wpAnyH_take (i := 14) (oi := ⟨_, _, _, _, _, _⟩) (v := ?_) rfl (by kernel_rfl) (by kernel_rfl) (by kernel_rfl) (fun _ _ _ h => h) (Or.inl ⟨by rfl, ?_⟩) (by assumption) ?_
              rotate_left
              · intro w hSw
                (try dsimp only at hSw)
                go_simp
                (try with_reducible rfl)
              (try simp only [Act.put, List.setIfInBounds_toArray, List.set_cons_zero, List.set_cons_succ])
              refine wpAnyH_take (i := 15) (oi := ⟨_, _, _, _, _, _⟩) (v := ?_) rfl (by kernel_rfl) (by kernel_rfl) (by kernel_rfl) (fun _ _ _ h => h) (Or.inl ⟨by rfl, ?_⟩) (by assumption) ?_
              rotate_left
              · intro w hSw
                (try dsimp only at hSw)
                go_simp
                (try with_reducible rfl)
              (try simp only [Act.put, List.setIfInBounds_toArray, List.set_cons_zero, List.set_cons_succ])
              refine wpAnyH_take (i := 16) (oi := ⟨_, _, _, _, _, _⟩) (v := ?_) rfl (by kernel_rfl) (by kernel_rfl) (by kernel_rfl) (fun _ _ _ h => h) (Or.inl ⟨by rfl, ?_⟩) (by assumption) ?_
              rotate_left
              · intro w hSw
                (try dsimp only at hSw)
                go_simp
                (try with_reducible rfl)
              (try simp only [Act.put, List.setIfInBounds_toArray, List.set_cons_zero, List.set_cons_succ])
              refine wpAnyH_take (i := 17) (oi := ⟨_, _, _, _, _, _⟩) (v := ?_) rfl (by kernel_rfl) (by kernel_rfl) (by kernel_rfl) (fun _ _ _ h => h) (Or.inl ⟨by rfl, ?_⟩) (by assumption) ?_
              rotate_left
              · intro w hSw
                (try dsimp only at hSw)
                go_simp
                (try with_reducible rfl)
              (try simp only [Act.put, List.setIfInBounds_toArray, List.set_cons_zero, List.set_cons_succ])
              refine wpAnyH_take (i := 18) (oi := ⟨_, _, _, _, _, _⟩) (v := ?_) rfl (by kernel_rfl) (by kernel_rfl) (by kernel_rfl) (fun _ _ _ h => h) (Or.inl ⟨by rfl, ?_⟩) (by assumption) ?_
              rotate_left
              · intro w hSw
                (try dsimp only at hSw)
                go_simp
                (try with_reducible rfl)
              (try simp only [Act.put, List.setIfInBounds_toArray, List.set_cons_zero, List.set_cons_succ])
              refine wpAnyH_take (i := 19) (oi := ⟨_, _, _, _, _, _⟩) (v := ?_) rfl (by kernel_rfl) (by kernel_rfl) (by kernel_rfl) (fun _ _ _ h => h) (Or.inl ⟨by rfl, ?_⟩) (by assumption) ?_
              rotate_left
              · intro w hSw
                (try dsimp only at hSw)
                go_simp
                (try with_reducible rfl)
              (try simp only [Act.put, List.setIfInBounds_toArray, List.set_cons_zero, List.set_cons_succ])
              refine wpAnyH_take (i := 20) (oi := ⟨_, _, _, _, _, _⟩) (v := ?_) rfl (by kernel_rfl) (by kernel_rfl) (by kernel_rfl) (fun _ _ _ h => h) (Or.inl ⟨by rfl, ?_⟩) (by assumption) ?_
              rotate_left
              · intro w hSw
                (try dsimp only at hSw)
                go_simp
                (try with_reducible rfl)
              (try simp only [Act.put, List.setIfInBounds_toArray, List.set_cons_zero, List.set_cons_succ])
              refine wpAnyH_take (i := 21) (oi := ⟨_, _, _, _, _, _⟩) (v := ?_) rfl (by kernel_rfl) (by kernel_rfl) (by kernel_rfl) (fun _ _ _ h => h) (Or.inl ⟨by rfl, ?_⟩) (by assumption) ?_
              rotate_left
              · intro w hSw
                (try dsimp only at hSw)
                go_simp
                (try with_reducible rfl)
              (try simp only [Act.put, List.setIfInBounds_toArray, List.set_cons_zero, List.set_cons_succ])
              refine wpAnyH_take (i := 22) (oi := ⟨_, _, _, _, _, _⟩) (v := ?_) rfl (by kernel_rfl) (by kernel_rfl) (by kernel_rfl) (fun _ _ _ h => h) (Or.inl ⟨by rfl, ?_⟩) (by assumption) ?_
              rotate_left
              · intro w hSw
                (try dsimp only at hSw)
                go_simp
                (try with_reducible rfl)
              (try simp only [Act.put, List.setIfInBounds_toArray, List.set_cons_zero, List.set_cons_succ])
              refine wpAnyH_take (i := 23) (oi := ⟨_, _, _, _, _, _⟩) (v := ?_) rfl (by kernel_rfl) (by kernel_rfl) (by kernel_rfl) (fun _ _ _ h => h) (Or.inl ⟨by rfl, ?_⟩) (by assumption) ?_
              rotate_left
              · intro w hSw
                (try dsimp only at hSw)
                go_simp
                (try with_reducible rfl)
              (try simp only [Act.put, List.setIfInBounds_toArray, List.set_cons_zero, List.set_cons_succ])
              refine wpAnyH_take (i := 24) (oi := ⟨_, _, _, _, _, _⟩) (v := ?_) rfl (by kernel_rfl) (by kernel_rfl) (by kernel_rfl) (fun _ _ _ h => h) (Or.inl ⟨by rfl, ?_⟩) (by assumption) ?_
              rotate_left
              · intro w hSw
                (try dsimp only at hSw)
                go_simp
                (try with_reducible rfl)
              (try simp only [Act.put, List.setIfInBounds_toArray, List.set_cons_zero, List.set_cons_succ])
              refine wpAnyH_take (i := 25) (oi := ⟨_, _, _, _, _, _⟩) (v := ?_) rfl (by kernel_rfl) (by kernel_rfl) (by kernel_rfl) (fun _ _ _ h => h) (Or.inl ⟨by rfl, ?_⟩) (by assumption) ?_
              rotate_left
              · intro w hSw
                (try dsimp only at hSw)
                go_simp
                (try with_reducible rfl)
              (try simp only [Act.put, List.setIfInBounds_toArray, List.set_cons_zero, List.set_cons_succ])
              refine wpAnyH_take (i := 26) (oi := ⟨_, _, _, _, _, _⟩) (v := ?_) rfl (by kernel_rfl) (by kernel_rfl) (by kernel_rfl) (fun _ _ _ h => h) (Or.inl ⟨by rfl, ?_⟩) (by assumption) ?_
              rotate_left
              · intro w hSw
                (try dsimp only at hSw)
                go_simp
                (try with_reducible rfl)
              (try simp only [Act.put, List.setIfInBounds_toArray, List.set_cons_zero, List.set_cons_succ])
              refine wpAnyH_take (i := 27) (oi := ⟨_, _, _, _, _, _⟩) (v := ?_) rfl (by kernel_rfl) (by kernel_rfl) (by kernel_rfl) (fun _ _ _ h => h) (Or.inl ⟨by rfl, ?_⟩) (by assumption) ?_
              rotate_left
              · intro w hSw
                (try dsimp only at hSw)
                go_simp
                (try with_reducible rfl)
              (try simp only [Act.put, List.setIfInBounds_toArray, List.set_cons_zero, List.set_cons_succ])
              refine wpAnyH_done (by kernel_rfl) ?_ _
              replace HB := Lib.hid (below_drew HB.out); replace HO2 := Lib.hid HO2.out.drew1
              have hbsz2 := HB.out.size
              clear c1 c2 c3 hbsz
              generalize wr.drew = wd at *
              go_wp2
              go_roundw
              case rel => exact ⟨k + 1, n', c', A', by omega, by go_num, rfl, by rw [selTo_no NS.out]; exact HO2.out, HB.out⟩
              case measure => simp [intOf]; omega
          · have hNS : routeSel D1 D2 dv k = false := by rw [SEL.out]; simp; omega
            have NS := Lib.hid hNS
            have hB3 : decide (0 ≤ x2) = false := by simpa using hB2
            clear hNS
            go_wp2_with fail
            refine wp_region_held_drew (S := fun w' => w'.cell? ⟨gs, k, none⟩ = some (.int .i64 x1) ∧ w'.cell? ⟨gt, k, none⟩ = some (.int .i64 x2) ∧ w'.cell? ⟨gs, t, none⟩ = some (.int .i64 dv)) (by kernel_rfl) ?_ (fun hHeld => ?_)
            · (try dsimp only)
              exact ⟨c1, c2, c3⟩
            refine wpAnyH_take (i := 0) (oi := ⟨_, _, _, _, _, _⟩) (v := ?_) rfl (by kernel_rfl) (by kernel_rfl) (by kernel_rfl) (fun _ _ _ h => h) (Or.inl ⟨by rfl, ?_⟩) (by assumption) ?_
            rotate_left
            · intro w hSw
              (try dsimp only at hSw)
              go_simp
              (try with_reducible rfl)
            (try simp only [Act.put, List.setIfInBounds_toArray, List.set_cons_zero, List.set_cons_succ])
            refine wpAnyH_take (i := 1) (oi := ⟨_, _, _, _, _, _⟩) (v := ?_) rfl (by kernel_rfl) (by kernel_rfl) (by kernel_rfl) (fun _ _ _ h => h) (Or.inl ⟨by rfl, ?_⟩) (by assumption) ?_
            rotate_left
            · intro w hSw
              (try dsimp only at hSw)
              go_simp
              (try with_reducible rfl)
            (try simp only [Act.put, List.setIfInBounds_toArray, List.set_cons_zero, List.set_cons_succ])
            refine wpAnyH_take (i := 2) (oi := ⟨_, _, _, _, _, _⟩) (v := ?_) rfl (by kernel_rfl) (by kernel_rfl) (by kernel_rfl) (fun _ _ _ h => h) (Or.inl ⟨by rfl, ?_⟩) (by assumption) ?_
            rotate_left
            · intro w hSw
              (try dsimp only at hSw)
              go_simp
              (try with_reducible rfl)
            (try simp only [Act.put, List.setIfInBounds_toArray, List.set_cons_zero, List.set_cons_succ])
            refine wpAnyH_take (i := 3) (oi := ⟨_, _, _, _, _, _⟩) (v := ?_) rfl (by kernel_rfl) (by kernel_rfl) (by kernel_rfl) (fun _ _ _ h => h) (Or.inl ⟨by rfl, ?_⟩) (by assumption) ?_
            rotate_left
            · intro w hSw
              (try dsimp only at hSw)
              go_simp
              (try with_reducible rfl)
            (try simp only [Act.put, List.setIfInBounds_toArray, List.set_cons_zero, List.set_cons_succ])
            refine wpAnyH_take (i := 4) (oi := ⟨_, _, _, _, _, _⟩) (v := ?_) rfl (by kernel_rfl) (by kernel_rfl) (by kernel_rfl) (fun _ _ _ h => h) (Or.inl ⟨by rfl, ?_⟩) (by assumption) ?_
            rotate_left
            · intro w hSw
              (try dsimp only at hSw)
              go_simp
              (try with_reducible rfl)
            (try simp only [Act.put, List.setIfInBounds_toArray, List.set_cons_zero, List.set_cons_succ])
            refine wpAnyH_take (i := 5) (oi := ⟨_, _, _, _, _, _⟩) (v := ?_) rfl (by kernel_rfl) (by kernel_rfl) (by kernel_rfl) (fun _ _ _ h => h) (Or.inl ⟨by rfl, ?_⟩) (by assumption) ?_
            rotate_left
            · intro w hSw
              (try dsimp only at hSw)
              go_simp
              (try with_reducible rfl)
            (try simp only [Act.put, List.setIfInBounds_toArray, List.set_cons_zero, List.set_cons_succ])
            refine wpAnyH_take (i := 6) (oi := ⟨_, _, _, _, _, _⟩) (v := ?_) rfl (by kernel_rfl) (by kernel_rfl) (by kernel_rfl) (fun _ _ _ h => h) (Or.inl ⟨by rfl, ?_⟩) (by assumption) ?_
            rotate_left
            · intro w hSw
              (try dsimp only at hSw)
              go_simp
              (try with_reducible rfl)
            (try simp only [Act.put, List.setIfInBounds_toArray, List.set_cons_zero, List.set_cons_succ])
            refine wpAnyH_take (i := 7) (oi := ⟨_, _, _, _, _, _⟩) (v := ?_) rfl (by kernel_rfl) (by kernel_rfl) (by kernel_rfl) (fun _ _ _ h => h) (Or.inl ⟨by rfl, ?_⟩) (by assumption) ?_
            rotate_left
            · intro w hSw
              (try dsimp only at hSw)
              go_simp
              (try with_reducible rfl)
            (try simp only [Act.put, List.setIfInBounds_toArray, List.set_cons_zero, List.set_cons_succ])
            refine wpAnyH_take (i := 8) (oi := ⟨_, _, _, _, _, _⟩) (v := ?_) rfl (by kernel_rfl) (by kernel_rfl) (by kernel_rfl) (fun _ _ _ h => h) (Or.inl ⟨by rfl, ?_⟩) (by assumption) ?_
            rotate_left
            · intro w hSw
              (try dsimp only at hSw)
              go_simp
              (try with_reducible rfl)
            (try simp only [Act.put, List.setIfInBounds_toArray, List.set_cons_zero, List.set_cons_succ])
            refine wpAnyH_take (i := 9) (oi := ⟨_, _, _, _, _, _⟩) (v := ?_) rfl (by kernel_rfl) (by kernel_rfl) (by kernel_rfl) (fun _ _ _ h => h) (Or.inl ⟨by rfl, ?_⟩) (by assumption) ?_
            rotate_left
            · intro w hSw
              (try dsimp only at hSw)
              go_simp
              (try with_reducible rfl)
            (try simp only [Act.put, List.setIfInBounds_toArray, List.set_cons_zero, List.set_cons_succ])
            refine wpAnyH_take (i := 10) (oi := ⟨_, _, _, _, _, _⟩) (v := ?_) rfl (by kernel_rfl) (by kernel_rfl) (by kernel_rfl) (fun _ _ _ h => h) (Or.inl ⟨by rfl, ?_⟩) (by assumption) ?_
            rotate_left
            · intro w hSw
              (try dsimp only at hSw)
              go_simp
              (try with_reducible rfl)
            (try simp only [Act.put, List.setIfInBounds_toArray, List.set_cons_zero, List.set_cons_succ])
            refine wpAnyH_take (i := 11) (oi := ⟨_, _, _, _, _, _⟩) (v := ?_) rfl (by kernel_rfl) (by kernel_rfl) (by kernel_rfl) (fun _ _ _ h => h) (Or.inl ⟨by rfl, ?_⟩) (by assumption) ?_
            rotate_left
            · intro w hSw
              (try dsimp only at hSw)
              go_simp
              (try with_reducible rfl)
            (try simp only [Act.put, List.setIfInBounds_toArray, List.set_cons_zero, List.set_cons_succ])
            refine wpAnyH_take (i := 12) (oi := ⟨_, _, _, _, _, _⟩) (v := ?_) rfl (by kernel_rfl) (by kernel_rfl) (by kernel_rfl) (fun _ _ _ h => h) (Or.inl ⟨by rfl, ?_⟩) (by assumption) ?_
            rotate_left
            · intro w hSw
              (try dsimp only at hSw)
              go_simp
              (try with_reducible rfl)
            (try simp only [Act.put, List.setIfInBounds_toArray, List.set_cons_zero, List.set_cons_succ])
            refine wpAnyH_take (i := 13) (oi := ⟨_, _, _, _, _, _⟩) (v := undef) rfl (by kernel_rfl) (by kernel_rfl) (by kernel_rfl) (fun _ _ _ h => h) (Or.inr ⟨by rfl, rfl⟩) (by assumption) ?_
            (try simp only [Act.put, List.setIfInBounds_toArray, List.set_cons_zero, List.set_cons_succ])
            refine wpAnyH_take (i := 14) (oi := ⟨_, _, _, _, _, _⟩) (v := undef) rfl (by kernel_rfl) (by kernel_rfl) (by kernel_rfl) (fun _ _ _ h => h) (Or.inr ⟨by rfl, rfl⟩) (by assumption) ?_
            (try simp only [Act.put, List.setIfInBounds_toArray, List.set_cons_zero, List.set_cons_succ])
            refine wpAnyH_take (i := 15) (oi := ⟨_, _, _, _, _, _⟩) (v := undef) rfl (by kernel_rfl) (by kernel_rfl) (by kernel_rfl) (fun _ _ _ h => h) (Or.inr ⟨by rfl, rfl⟩) (by assumption) ?_
            (try simp only [Act.put, List.setIfInBounds_toArray, List.set_cons_zero, List.set_cons_succ])
            refine wpAnyH_take (i := 16) (oi := ⟨_, _, _, _, _, _⟩) (v := undef) rfl (by kernel_rfl) (by kernel_rfl) (by kernel_rfl) (fun _ _ _ h => h) (Or.inr ⟨by rfl, rfl⟩) (by assumption) ?_
            (try simp only [Act.put, List.setIfInBounds_toArray, List.set_cons_zero, List.set_cons_succ])
            refine wpAnyH_take (i := 17) (oi := ⟨_, _, _, _, _, _⟩) (v := undef) rfl (by kernel_rfl) (by kernel_rfl) (by kernel_rfl) (fun _ _ _ h => h) (Or.inr ⟨by rfl, rfl⟩) (by assumption) ?_
            (try simp only [Act.put, List.setIfInBounds_toArray, List.set_cons_zero, List.set_cons_succ])
            refine wpAnyH_take (i := 18) (oi := ⟨_, _, _, _, _, _⟩) (v := undef) rfl (by kernel_rfl) (by kernel_rfl) (by kernel_rfl) (fun _ _ _ h => h) (Or.inr ⟨by rfl, rfl⟩) (by assumption) ?_
            (try simp only [Act.put, List.setIfInBounds_toArray, List.set_cons_zero, List.set_cons_succ])
            refine wpAnyH_take (i := 19) (oi := ⟨_, _, _, _, _, _⟩) (v := undef) rfl (by kernel_rfl) (by kernel_rfl) (by kernel_rfl) (fun _ _ _ h => h) (Or.inr ⟨by rfl, rfl⟩) (by assumption) ?_
            (try simp only [Act.put, List.setIfInBounds_toArray, List.set_cons_zero, List.set_cons_succ])
            refine wpAnyH_take (i := 20) (oi := ⟨_, _, _, _, _, _⟩) (v := undef) rfl (by kernel_rfl) (by kernel_rfl) (by kernel_rfl) (fun _ _ _ h => h) (Or.inr ⟨by rfl, rfl⟩) (by assumption) ?_
            (try simp only [Act.put, List.setIfInBounds_toArray, List.set_cons_zero, List.set_cons_succ])
            refine wpAnyH_take (i := 21) (oi := ⟨_, _, _, _, _, _⟩) (v := undef) rfl (by kernel_rfl) (by kernel_rfl) (by kernel_rfl) (fun _ _ _ h => h) (Or.inr ⟨by rfl, rfl⟩) (by assumption) ?_
            (try simp only [Act.put, List.setIfInBounds_toArray, List.set_cons_zero, List.set_cons_succ])
            refine wpAnyH_take (i := 22) (oi := ⟨_, _, _, _, _, _⟩) (v := undef) rfl (by kernel_rfl) (by kernel_rfl) (by kernel_rfl) (fun _ _ _ h => h) (Or.inr ⟨by rfl, rfl⟩) (by assumption) ?_
            (try simp only [Act.put, List.setIfInBounds_toArray, List.set_cons_zero, List.set_cons_succ])
            refine wpAnyH_take (i := 23) (oi := ⟨_, _, _, _, _, _⟩) (v := undef) rfl (by kernel_rfl) (by kernel_rfl) (by kernel_rfl) (fun _ _ _ h => h) (Or.inr ⟨by rfl, rfl⟩) (by assumption) ?_
            (try simp only [Act.put, List.setIfInBounds_toArray, List.set_cons_zero, List.set_cons_succ])
            refine wpAnyH_take (i := 24) (oi := ⟨_, _, _, _, _, _⟩) (v := undef) rfl (by kernel_rfl) (by kernel_rfl) (by kernel_rfl) (fun _ _ _ h => h) (Or.inr ⟨by rfl, rfl⟩) (by assumption) ?_
            (try simp only [Act.put, List.setIfInBounds_toArray, List.set_cons_zero, List.set_cons_succ])
            refine wpAnyH_take (i := 25) (oi := ⟨_, _, _, _, _, _⟩) (v := undef) rfl (by kernel_rfl) (by kernel_rfl) (by kernel_rfl) (fun _ _ _ h => h) (Or.inr ⟨by rfl, rfl⟩) (by assumption) ?_
            (try simp only [Act.put, List.setIfInBounds_toArray, List.set_cons_zero, List.set_cons_succ])
            refine wpAnyH_take (i := 26) (oi := ⟨_, _, _, _, _, _⟩) (v := undef) rfl (by kernel_rfl) (by kernel_rfl) (by kernel_rfl) (fun _ _ _ h => h) (Or.inr ⟨by rfl, rfl⟩) (by assumption) ?_
            (try simp only [Act.put, List.setIfInBounds_toArray, List.set_cons_zero, List.set_cons_succ])
            refine wpAnyH_take (i := 27) (oi := ⟨_, _, _, _, _, _⟩) (v := ?_) rfl (by kernel_rfl) (by kernel_rfl) (by kernel_rfl) (fun _ _ _ h => h) (Or.inl ⟨by rfl, ?_⟩) (by assumption) ?_
            rotate_left
            · intro w hSw
              (try dsimp only at hSw)
              go_simp
              (try with_reducible rfl)
            (try simp only [Act.put, List.setIfInBounds_toArray, List.set_cons_zero, List.set_cons_succ])
            refine wpAnyH_done (by kernel_rfl) ?_ _
            replace HB := Lib.hid (below_drew HB.out); replace HO2 := Lib.hid HO2.out.drew1
            have hbsz2 := HB.out.size
            clear c1 c2 c3 hbsz
            generalize wr.drew = wd at *
            go_wp2
            go_roundw
            case rel => exact ⟨k + 1, n', c', A', by omega, by go_num, rfl, by rw [selTo_no NS.out]; exact HO2.out, HB.out⟩
            case measure => simp [intOf]; omega
        · have hNS : routeSel D1 D2 dv k = false := by rw [SEL.out]; simp; omega
          have NS := Lib.hid hNS
          have hA3 : decide (0 ≤ x1) = false := by simpa using hA
          clear hNS
          go_wp2_with fail
          refine wp_region_held_drew (S := fun w' => w'.cell? ⟨gs, k, none⟩ = some (.int .i64 x1) ∧ w'.cell? ⟨gt, k, none⟩ = some (.int .i64 x2) ∧ w'.cell? ⟨gs, t, none⟩ = some (.int .i64 dv)) (by kernel_rfl) ?_ (fun hHeld => ?_)
          · (try dsimp only)
            exact ⟨c1, c2, c3⟩
          refine wpAnyH_take (i := 0) (oi := ⟨_, _, _, _, _, _⟩) (v := ?_) rfl (by kernel_rfl) (by kernel_rfl) (by kernel_rfl) (fun _ _ _ h => h) (Or.inl ⟨by rfl, ?_⟩) (by assumption) ?_
          rotate_left
          · intro w hSw
            (try dsimp only at hSw)
            go_simp
            (try with_reducible rfl)
          (try simp only [Act.put, List.setIfInBounds_toArray, List.set_cons_zero, List.set_cons_succ])
          refine wpAnyH_take (i := 1) (oi := ⟨_, _, _, _, _, _⟩) (v := ?_) rfl (by kernel_rfl) (by kernel_rfl) (by kernel_rfl) (fun _ _ _ h => h) (Or.inl ⟨by rfl, ?_⟩) (by assumption) ?_
          rotate_left
          · intro w hSw
            (try dsimp only at hSw)
            go_simp
            (try with_reducible rfl)
          (try simp only [Act.put, List.setIfInBounds_toArray, List.set_cons_zero, List.set_cons_succ])
          refine wpAnyH_take (i := 2) (oi := ⟨_, _, _, _, _, _⟩) (v := ?_) rfl (by kernel_rfl) (by kernel_rfl) (by kernel_rfl) (fun _ _ _ h => h) (Or.inl ⟨by rfl, ?_⟩) (by assumption) ?_
          rotate_left
          · intro w hSw
            (try dsimp only at hSw)
            go_simp
            (try with_reducible rfl)
          (try simp only [Act.put, List.setIfInBounds_toArray, List.set_cons_zero, List.set_cons_succ])
          refine wpAnyH_take (i := 3) (oi := ⟨_, _, _, _, _, _⟩) (v := ?_) rfl (by kernel_rfl) (by kernel_rfl) (by kernel_rfl) (fun _ _ _ h => h) (Or.inl ⟨by rfl, ?_⟩) (by assumption) ?_
          rotate_left
          · intro w hSw
            (try dsimp only at hSw)
            go_simp
            (try with_reducible rfl)
          (try simp only [Act.put, List.setIfInBounds_toArray, List.set_cons_zero, List.set_cons_succ])
          refine wpAnyH_take (i := 4) (oi := ⟨_, _, _, _, _, _⟩) (v := ?_) rfl (by kernel_rfl) (by kernel_rfl) (by kernel_rfl) (fun _ _ _ h => h) (Or.inl ⟨by rfl, ?_⟩) (by assumption) ?_
          rotate_left
          · intro w hSw
            (try dsimp only at hSw)
            go_simp
            (try with_reducible rfl)
          (try simp only [Act.put, List.setIfInBounds_toArray, List.set_cons_zero, List.set_cons_succ])
          refine wpAnyH_take (i := 5) (oi := ⟨_, _, _, _, _, _⟩) (v := ?_) rfl (by kernel_rfl) (by kernel_rfl) (by kernel_rfl) (fun _ _ _ h => h) (Or.inl ⟨by rfl, ?_⟩) (by assumption) ?_
          rotate_left
          · intro w hSw
            (try dsimp only at hSw)
            go_simp
            (try with_reducible rfl)
          (try simp only [Act.put, List.setIfInBounds_toArray, List.set_cons_zero, List.set_cons_succ])
          refine wpAnyH_take (i := 6) (oi := ⟨_, _, _, _, _, _⟩) (v := undef) rfl (by kernel_rfl) (by kernel_rfl) (by kernel_rfl) (fun _ _ _ h => h) (Or.inr ⟨by rfl, rfl⟩) (by assumption) ?_
          (try simp only [Act.put, List.setIfInBounds_toArray, List.set_cons_zero, List.set_cons_succ])
          refine wpAnyH_take (i := 7) (oi := ⟨_, _, _, _, _, _⟩) (v := undef) rfl (by kernel_rfl) (by kernel_rfl) (by kernel_rfl) (fun _ _ _ h => h) (Or.inr ⟨by rfl, rfl⟩) (by assumption) ?_
          (try simp only [Act.put, List.setIfInBounds_toArray, List.set_cons_zero, List.set_cons_succ])
          refine wpAnyH_take (i := 8) (oi := ⟨_, _, _, _, _, _⟩) (v := undef) rfl (by kernel_rfl) (by kernel_rfl) (by kernel_rfl) (fun _ _ _ h => h) (Or.inr ⟨by rfl, rfl⟩) (by assumption) ?_
          (try simp only [Act.put, List.setIfInBounds_toArray, List.set_cons_zero, List.set_cons_succ])
          refine wpAnyH_take (i := 9) (oi := ⟨_, _, _, _, _, _⟩) (v := undef) rfl (by kernel_rfl) (by kernel_rfl) (by kernel_rfl) (fun _ _ _ h => h) (Or.inr ⟨by rfl, rfl⟩) (by assumption) ?_
          (try simp only [Act.put, List.setIfInBounds_toArray, List.set_cons_zero, List.set_cons_succ])
          refine wpAnyH_take (i := 10) (oi := ⟨_, _, _, _, _, _⟩) (v := undef) rfl (by kernel_rfl) (by kernel_rfl) (by kernel_rfl) (fun _ _ _ h => h) (Or.inr ⟨by rfl, rfl⟩) (by assumption) ?_
          (try simp only [Act.put, List.setIfInBounds_toArray, List.set_cons_zero, List.set_cons_succ])
          refine wpAnyH_take (i := 11) (oi := ⟨_, _, _, _, _, _⟩) (v := ?_) rfl (by kernel_rfl) (by kernel_rfl) (by kernel_rfl) (fun _ _ _ h => h) (Or.inl ⟨by rfl, ?_⟩) (by assumption) ?_
          rotate_left
          · intro w hSw
            (try dsimp only at hSw)
            go_simp
            (try with_reducible rfl)
          (try simp only [Act.put, List.setIfInBounds_toArray, List.set_cons_zero, List.set_cons_succ])
          refine wpAnyH_take (i := 12) (oi := ⟨_, _, _, _, _, _⟩) (v := ?_) rfl (by kernel_rfl) (by kernel_rfl) (by kernel_rfl) (fun _ _ _ h => h) (Or.inl ⟨by rfl, ?_⟩) (by assumption) ?_
          rotate_left
          · intro w hSw
            (try dsimp only at hSw)
            go_simp
            (try with_reducible rfl)
          (try simp only [Act.put, List.setIfInBounds_toArray, List.set_cons_zero, List.set_cons_succ])
          refine wpAnyH_take (i := 13) (oi := ⟨_, _, _, _, _, _⟩) (v := undef) rfl (by kernel_rfl) (by kernel_rfl) (by kernel_rfl) (fun _ _ _ h => h) (Or.inr ⟨by rfl, rfl⟩) (by assumption) ?_
          (try simp only [Act.put, List.setIfInBounds_toArray, List.set_cons_zero, List.set_cons_succ])
          refine wpAnyH_take (i := 14) (oi := ⟨_, _, _, _, _, _⟩) (v := undef) rfl (by kernel_rfl) (by kernel_rfl) (by kernel_rfl) (fun _ _ _ h => h) (Or.inr ⟨by rfl, rfl⟩) (by assumption) ?_
          (try simp only [Act.put, List.setIfInBounds_toArray, List.set_cons_zero, List.set_cons_succ])
          refine wpAnyH_take (i := 15) (oi := ⟨_, _, _, _, _, _⟩) (v := undef) rfl (by kernel_rfl) (by kernel_rfl) (by kernel_rfl) (fun _ _ _ h => h) (Or.inr ⟨by rfl, rfl⟩) (by assumption) ?_
          (try simp only [Act.put, List.setIfInBounds_toArray, List.set_cons_zero, List.set_cons_succ])
          refine wpAnyH_take (i := 16) (oi := ⟨_, _, _, _, _, _⟩) (v := undef) rfl (by kernel_rfl) (by kernel_rfl) (by kernel_rfl) (fun _ _ _ h => h) (Or.inr ⟨by rfl, rfl⟩) (by assumption) ?_
          (try simp only [Act.put, List.setIfInBounds_toArray, List.set_cons_zero, List.set_cons_succ])
          refine wpAnyH_take (i := 17) (oi := ⟨_, _, _, _, _, _⟩) (v := undef) rfl (by kernel_rfl) (by kernel_rfl) (by kernel_rfl) (fun _ _ _ h => h) (Or.inr ⟨by rfl, rfl⟩) (by assumption) ?_
          (try simp only [Act.put, List.setIfInBounds_toArray, List.set_cons_zero, List.set_cons_succ])
          refine wpAnyH_take (i := 18) (oi := ⟨_, _, _, _, _, _⟩) (v := undef) rfl (by kernel_rfl) (by kernel_rfl) (by kernel_rfl) (fun _ _ _ h => h) (Or.inr ⟨by rfl, rfl⟩) (by assumption) ?_
          (try simp only [Act.put, List.setIfInBounds_toArray, List.set_cons_zero, List.set_cons_succ])
          refine wpAnyH_take (i := 19) (oi := ⟨_, _, _, _, _, _⟩) (v := undef) rfl (by kernel_rfl) (by kernel_rfl) (by kernel_rfl) (fun _ _ _ h => h) (Or.inr ⟨by rfl, rfl⟩) (by assumption) ?_
          (try simp only [Act.put, List.setIfInBounds_toArray, List.set_cons_zero, List.set_cons_succ])
          refine wpAnyH_take (i := 20) (oi := ⟨_, _, _, _, _, _⟩) (v := undef) rfl (by kernel_rfl) (by kernel_rfl) (by kernel_rfl) (fun _ _ _ h => h) (Or.inr ⟨by rfl, rfl⟩) (by assumption) ?_
          (try simp only [Act.put, List.setIfInBounds_toArray, List.set_cons_zero, List.set_cons_succ])
          refine wpAnyH_take (i := 21) (oi := ⟨_, _, _, _, _, _⟩) (v := undef) rfl (by kernel_rfl) (by kernel_rfl) (by kernel_rfl) (fun _ _ _ h => h) (Or.inr ⟨by rfl, rfl⟩) (by assumption) ?_
          (try simp only [Act.put, List.setIfInBounds_toArray, List.set_cons_zero, List.set_cons_succ])
          refine wpAnyH_take (i := 22) (oi := ⟨_, _, _, _, _, _⟩) (v := undef) rfl (by kernel_rfl) (by kernel_rfl) (by kernel_rfl) (fun _ _ _ h => h) (Or.inr ⟨by rfl, rfl⟩) (by assumption) ?_
          (try simp only [Act.put, List.setIfInBounds_toArray, List.set_cons_zero, List.set_cons_succ])
          refine wpAnyH_take (i := 23) (oi := ⟨_, _, _, _, _, _⟩) (v := undef) rfl (by kernel_rfl) (by kernel_rfl) (by kernel_rfl) (fun _ _ _ h => h) (Or.inr ⟨by rfl, rfl⟩) (by assumption) ?_
          (try simp only [Act.put, List.setIfInBounds_toArray, List.set_cons_zero, List.set_cons_succ])
          refine wpAnyH_take (i := 24) (oi := ⟨_, _, _, _, _, _⟩) (v := undef) rfl (by kernel_rfl) (by kernel_rfl) (by kernel_rfl) (fun _ _ _ h => h) (Or.inr ⟨by rfl, rfl⟩) (by assumption) ?_
          (try simp only [Act.put, List.setIfInBounds_toArray, List.set_cons_zero, List.set_cons_succ])
          refine wpAnyH_take (i := 25) (oi := ⟨_, _, _, _, _, _⟩) (v := undef) rfl (by kernel_rfl) (by kernel_rfl) (by kernel_rfl) (fun _ _ _ h => h) (Or.inr ⟨by rfl, rfl⟩) (by assumption) ?_
          (try simp only [Act.put, List.setIfInBounds_toArray, List.set_cons_zero, List.set_cons_succ])
          refine wpAnyH_take (i := 26) (oi := ⟨_, _, _, _, _, _⟩) (v := undef) rfl (by kernel_rfl) (by kernel_rfl) (by kernel_rfl) (fun _ _ _ h => h) (Or.inr ⟨by rfl, rfl⟩) (by assumption) ?_
          (try simp only [Act.put, List.setIfInBounds_toArray, List.set_cons_zero, List.set_cons_succ])
          refine wpAnyH_take (i := 27) (oi := ⟨_, _, _, _, _, _⟩) (v := ?_) rfl (by kernel_rfl) (by kernel_rfl) (by kernel_rfl) (fun _ _ _ h => h) (Or.inl ⟨by rfl, ?_⟩) (by assumption) ?_
          rotate_left
          · intro w hSw
            (try dsimp only at hSw)
            go_simp
            (try with_reducible rfl)
          (try simp only [Act.put, List.setIfInBounds_toArray, List.set_cons_zero, List.set_cons_succ])
          refine wpAnyH_done (by kernel_rfl) ?_ _
          replace HB := Lib.hid (below_drew HB.out); replace HO2 := Lib.hid HO2.out.drew1
          have hbsz2 := HB.out.size
          clear c1 c2 c3 hbsz
          generalize wr.drew = wd at *
          go_wp2
          go_roundw
          case rel => exact ⟨k + 1, n', c', A', by omega, by go_num, rfl, by rw [selTo_no NS.out]; exact HO2.out, HB.out⟩
          case measure => simp [intOf]; omega
      · obtain rfl : k = N := by omega
        have HO2 := Lib.hid (hown.lower B.out.size); have HB := Lib.hid (below_next B.out hbw)
        clear hown hbw
        go_wp2
        go_ret2
        exact ⟨_, _, _, by rw [HO.out]; rfl, by rw [ANS.out]; exact HO2.out, HB.out⟩
    
  · have ho' : onB W H xs a b [p, q] = false := by simpa using ho
    go_enter Try.func31, Try.ntmps31
    go_wp2_with fail
    refine (faAsked_any _ _ _ _ _ _ _ _ _ _ _ ((ha.alloc _).alloc _)).mono ?_
    rw [ho']
    rintro e wv ⟨rfl, hb⟩
    have hbx0 := below_box hb
    have a0 : wv.cell? ⟨w.heap.size, 0, none⟩ = some (.int .i64 W) := by simpa using newbox hbx0 0
    have a1 : wv.cell? ⟨w.heap.size, 1, none⟩ = some (.int .i64 H) := by simpa using newbox hbx0 1
    have a2 : wv.cell? ⟨w.heap.size, 2, none⟩ = some (.slice A n c) := by simpa using newbox hbx0 2
    have al : w.heap.size < wv.heap.size := by simpa using newbox_lt hbx0
    have l0 : wv.cell? ⟨w.heap.size + 1, 0, none⟩ = some (.int .i64 a) := by simpa using newbox hb 0
    have l1 : wv.cell? ⟨w.heap.size + 1, 1, none⟩ = some (.int .i64 b) := by simpa using newbox hb 1
    have ll : w.heap.size + 1 < wv.heap.size := by simpa using newbox_lt hb
    have B := Lib.hid (below_box hbx0)
    clear hb hbx0
    go_wp2
    go_ret2
    exact ⟨none, 0, 0, by rw [show onB W H xs a b [p, q] = false by rw [ho']]; rfl, by rw [onRoutesV, if_neg (by rw [ho']; simp)]; exact OwnI.none_ _ _ _, B.out⟩

end Go.Proofs.Ytoangjjikmjkgaa

namespace Go.Proofs.Ytoangjjikmjkgaa
open Go.RowKit

theorem setRow_alloc_old (w : World) (o : Obj) (g : Nat) (cs : Array Value) (h : g < w.heap.size) : (w.alloc o).setRow g cs = (w.setRow g cs).alloc o := by
  simp only [World.setRow, World.alloc]
  congr 1
  apply Array.ext_getElem?
  intro i
  rw [Array.getElem?_modify, Array.getElem?_push, Array.getElem?_push, Array.size_modify, Array.getElem?_modify]
  by_cases e : i = w.heap.size
  · rw [if_pos e, if_pos e, if_neg (by omega)]
  · rw [if_neg e, if_neg e]
theorem wpList_store64g {ops : Array Oper} {rest : List Oper} {o : Oper} {a : Act} {w0 : World} {Q : Exit → Act → World → Prop} (L : List Int) (hL : L.length = 144) (g : Nat) (hgw : g = w0.heap.size) (hg : o.guard = none) (x y : Operand)
    (ho : o.op = .store 57 x y) (hd : o.dst = none) (hx : a.eval x = .pointer (some ⟨g, 0, none⟩)) (hy : a.eval y = .agg (L.map (Value.int .i64)).toArray)
    (E : TypeId) (old : Array Value) (hold : old.size = 144) (h : wpList Try.prog ops Q rest a (w0.alloc (.cells (L.map (Value.int .i64)).toArray E))) :
    wpList Try.prog ops Q (o :: rest) a (w0.alloc (.cells old E)) := by
  subst hgw
  exact wpList_store64 L hL hg x y ho hd hx hy E old hold h
theorem wpList_store64b {ops : Array Oper} {rest : List Oper} {o : Oper} {a : Act} {w0 : World} {Q : Exit → Act → World → Prop} (L : List Int) (hL : L.length = 144) (hg : o.guard = none) (x y : Operand)
    (ho : o.op = .store 57 x y) (hd : o.dst = none) (hx : a.eval x = .pointer (some ⟨w0.heap.size, 0, none⟩)) (hy : a.eval y = .agg (L.map (Value.int .i64)).toArray)
    (E : TypeId) (old : Array Value) (hold : old.size = 144) (o2 : Obj) (h : wpList Try.prog ops Q rest a ((w0.alloc (.cells (L.map (Value.int .i64)).toArray E)).alloc o2)) :
    wpList Try.prog ops Q (o :: rest) a ((w0.alloc (.cells old E)).alloc o2) := by
  refine wpList_store_rowTo hg _ x y ho hd w0.heap.size (L.map (Value.int .i64)).toArray hx hy E old (show ((w0.heap.push _).push _)[w0.heap.size]? = _ by rw [Array.getElem?_push_lt (by simp), ← Array.getElem?_eq_getElem, Array.getElem?_push_size]) (by rw [infoDs]; simp [hL]) (by rw [hold]; simp [hL]) ?_ ?_
  · refine Array.all_eq_true_iff_forall_mem.2 (fun v hv => ?_)
    simp only [List.mem_toArray, List.mem_map] at hv
    obtain ⟨i, _, rfl⟩ := hv
    rfl
  · rw [setRow_alloc_old _ _ _ _ (by simp), World.setRow_alloc_new]; exact h
theorem pad_get {D : List Int} {m j : Nat} (h : j < D.length) : (D ++ List.replicate m (-1)).getD j 0 = D.getD j (-1) := by
  rw [List.getD_eq_getElem?_getD, List.getElem?_append_left h, List.getD_eq_getElem?_getD, List.getElem?_eq_getElem h]; rfl

set_option maxRecDepth 100000 in
set_option maxHeartbeats 4000000 in
theorem impl_CellsOnRoutes (W H : Int) (A : Option Addr) (n c : Nat) (xs : List Int) (a b : Int) (p : Int) (q : Int) (w : World) (ha : Rd w A n xs) :
    Calls Try.prog 32 #[brd W H A n c, lpr a b, .int .i64 p, .int .i64 q] w fun e w' => ∃ A' n' c', e = .returned (.tuple #[.slice A' n' c', .bool (onB W H xs a b [p, q])]) ∧ OwnI 3 w' w.heap.size A' n' c' (onRoutesV W H xs a b p q) ∧ Below w.heap.size w w' := by
  obtain ⟨i0, hi, hz0, hz1, hz2⟩ := info_parts infoI
  have HI := Lib.hid hi; have HZ0 := Lib.hid hz0; have HZ1 := Lib.hid hz1; have HZ2 := Lib.hid hz2
  clear hi hz0 hz1 hz2
  by_cases ho : onB W H xs a b [p, q] = true
  · have FO := on_facts (onB_two ho).1
    have HP := Lib.hid (onB_two ho).2.1
    have HQ := Lib.hid (onB_two ho).2.2
    obtain ⟨N, hN⟩ : ∃ N, N = (W * H).toNat := ⟨_, rfl⟩
    rw [← hN] at FO
    have hp0 := (hasB_iff.1 HP.out).1
    have hq0 := (hasB_iff.1 HQ.out).1
    rw [FO.wh] at hp0 hq0
    obtain ⟨s, rfl⟩ : ∃ s : Nat, p = (s : Int) := ⟨p.toNat, by omega⟩
    obtain ⟨t, rfl⟩ : ∃ t : Nat, q = (t : Int) := ⟨q.toNat, by omega⟩
    have hs : s < N := by omega
    have ht : t < N := by omega
    have HF := Lib.hid FO
    have n64 := FO.n.2
    have HD := Lib.hid (dist_at FO HP.out ht)
    have DLO := HD.out.2.1
    have DHI := HD.out.2.2
    have HO := Lib.hid ho
    obtain ⟨dv, hdv⟩ : ∃ dv, dv = distV W H xs a b (s : Int) (t : Int) := ⟨_, rfl⟩
    rw [← hdv] at DLO DHI
    have HDV := Lib.hid hdv
    have HWN := Lib.hid (show (W * H).toNat = N from hN.symm)
    have ANS : Hid (onRoutesV W H xs a b (s : Int) (t : Int) = selTo (routeSel (distL W H xs a b (s : Int)) (distL W H xs a b (t : Int)) dv) N) := Lib.hid (by rw [onRoutesV, if_pos ho, hdv, hN])
    clear FO hp0 hq0 hN hdv
    obtain ⟨W2, hW2⟩ : ∃ W2, W2 = ((w.alloc (.cells #[.int .i64 W, .int .i64 H, .slice A n c] 30)).alloc (.cells #[.int .i64 a, .int .i64 b] 32)).alloc (.cells #[.int .i64 (s : Int), .int .i64 (t : Int)] 3) := ⟨_, rfl⟩
    have hsz : W2.heap.size = w.heap.size + 3 := by rw [hW2]; simp
    have a0 : W2.cell? ⟨w.heap.size, 0, none⟩ = some (.int .i64 W) := by rw [hW2]; go_simp
    have a1 : W2.cell? ⟨w.heap.size, 1, none⟩ = some (.int .i64 H) := by rw [hW2]; go_simp
    have a2 : W2.cell? ⟨w.heap.size, 2, none⟩ = some (.slice A n c) := by rw [hW2]; go_simp
    have l0 : W2.cell? ⟨w.heap.size + 1, 0, none⟩ = some (.int .i64 a) := by rw [hW2]; go_simp
    have l1 : W2.cell? ⟨w.heap.size + 1, 1, none⟩ = some (.int .i64 b) := by rw [hW2]; go_simp
    have q0 : W2.cell? ⟨w.heap.size + 1 + 1, 0, none⟩ = some (.int .i64 (s : Int)) := by rw [hW2]; go_simp
    have q1 : W2.cell? ⟨w.heap.size + 1 + 1, 1, none⟩ = some (.int .i64 (t : Int)) := by rw [hW2]; go_simp
    have al : w.heap.size < W2.heap.size := by omega
    have ll : w.heap.size + 1 < W2.heap.size := by omega
    have B := Lib.hid (show Below w.heap.size w W2 by rw [hW2]; exact (((Below.refl _ _).alloc (Nat.le_refl _) _).alloc (by simp) _).alloc (by simp; omega) _)
    have RP := Lib.hid (show Rd W2 (some ⟨w.heap.size + 1 + 1, 0, none⟩) 2 [(s : Int), (t : Int)] from ⟨rfl, by omega, fun k hk => by
      have h2 : k = 0 ∨ k = 1 := by omega
      rcases h2 with rfl | rfl
      · exact ⟨_, 0, _, rfl, by omega, rfl, q0⟩
      · exact ⟨_, 0, _, rfl, by omega, rfl, q1⟩⟩)
    clear q0 q1
    go_enter Try.func32, Try.ntmps32
    go_wp2_with fail
    rw [← hW2]
    clear hW2
    refine (isLeaperOn_any W H A n c xs a b _ 2 2 _ W2 (ha.keep B.out) RP.out).mono ?_
    rw [ho]
    rintro e wv ⟨rfl, hb⟩
    replace a0 := cell_keep a0 al hb; replace a1 := cell_keep a1 al hb; replace a2 := cell_keep a2 al hb; replace l0 := cell_keep l0 ll hb; replace l1 := cell_keep l1 ll hb; replace al := lt_keep al hb; replace ll := lt_keep ll hb
    replace B := Lib.hid (below_next B.out hb)
    clear hb RP hsz
    go_wp2_with fail
    refine (onwardOf_any W H A n c xs a b _ (ha.keep B.out) HF.out.g HF.out.l).mono ?_
    rintro e wx ⟨mb, rfl, hom, hb⟩
    have HOM := Lib.hid hom
    replace a0 := cell_keep a0 al hb; replace a1 := cell_keep a1 al hb; replace a2 := cell_keep a2 al hb; replace l0 := cell_keep l0 ll hb; replace l1 := cell_keep l1 ll hb; replace al := lt_keep al hb; replace ll := lt_keep ll hb; replace B := Lib.hid (below_next B.out hb)
    clear hb hom
    go_wp2_with fail
    refine (distancesFrom_any _ mb (cellsL W H xs) (leapsL W H xs a b) s _ HOM.out (by omega) (cellsL_mem.2 HP.out) (cells_in HF.out) adj_in).mono ?_
    rintro e wy ⟨rfl, hb⟩
    replace HOM := Lib.hid (HOM.out.keep hb)
    replace a0 := cell_keep a0 al hb; replace a1 := cell_keep a1 al hb; replace a2 := cell_keep a2 al hb; replace l0 := cell_keep l0 ll hb; replace l1 := cell_keep l1 ll hb; replace al := lt_keep al hb; replace ll := lt_keep ll hb; replace B := Lib.hid (below_next B.out hb)
    clear hb
    go_wp2_with fail
    refine (distancesFrom_any _ mb (cellsL W H xs) (leapsL W H xs a b) t _ HOM.out (by omega) (cellsL_mem.2 HQ.out) (cells_in HF.out) adj_in).mono ?_
    rintro e wz ⟨rfl, hb⟩
    replace a0 := cell_keep a0 al hb; replace a1 := cell_keep a1 al hb; replace a2 := cell_keep a2 al hb; replace l0 := cell_keep l0 ll hb; replace l1 := cell_keep l1 ll hb; replace al := lt_keep al hb; replace ll := lt_keep ll hb; replace B := Lib.hid (below_next B.out hb)
    clear hb HOM
    have h1 : (farL (leapsL W H xs a b) 144 (s : Int)).length = 144 := far_len64 HF.out HP.out
    have h2 : (farL (leapsL W H xs a b) 144 (t : Int)).length = 144 := far_len64 HF.out HQ.out
    have e1 := far64 HF.out HP.out
    have e2 := far64 HF.out HQ.out
    have LE1 := Lib.hid (dist_len HF.out HP.out); have LE2 := Lib.hid (dist_len HF.out HQ.out)
    generalize farL (leapsL W H xs a b) 144 (s : Int) = L1 at h1 e1 ⊢
    generalize farL (leapsL W H xs a b) 144 (t : Int) = L2 at h2 e2 ⊢
    have hc1 : ∀ j, j < N → (wz.alloc (.cells (L1.map (Value.int .i64)).toArray 57)).cell? ⟨wz.heap.size, j, none⟩ = some (.int .i64 ((distL W H xs a b (s : Int)).getD j (-1))) := fun j hj => by
      have h := cell_laid wz L1 57 j (by omega)
      rw [Nat.zero_add] at h
      rw [h, e1, pad_get (by rw [LE1.out]; exact hj)]
    have hc2 : ∀ j, j < N → ((wz.alloc (.cells (L1.map (Value.int .i64)).toArray 57)).alloc (.cells (L2.map (Value.int .i64)).toArray 57)).cell? ⟨wz.heap.size + 1, j, none⟩ = some (.int .i64 ((distL W H xs a b (t : Int)).getD j (-1))) := fun j hj => by
      have h := cell_laid (wz.alloc (.cells (L1.map (Value.int .i64)).toArray 57)) L2 57 j (by omega)
      rw [Nat.zero_add] at h
      have hz : (wz.alloc (.cells (L1.map (Value.int .i64)).toArray 57)).heap.size = wz.heap.size + 1 := by simp
      rw [hz] at h
      rw [h, e2, pad_get (by rw [LE2.out]; exact hj)]
    obtain ⟨W4, hW4⟩ : ∃ W4, W4 = (wz.alloc (.cells (L1.map (Value.int .i64)).toArray 57)).alloc (.cells (L2.map (Value.int .i64)).toArray 57) := ⟨_, rfl⟩
    have hs4 : W4.heap.size = wz.heap.size + 2 := by rw [hW4]; simp
    have hbe : Below wz.heap.size wz W4 := by rw [hW4]; exact below_new (below_new (Below.refl _ _) _) _
    have hc1' : ∀ j, j < N → W4.cell? ⟨wz.heap.size, j, none⟩ = some (.int .i64 ((distL W H xs a b (s : Int)).getD j (-1))) := fun j hj => by
      rw [hW4]; exact cell_keep (hc1 j hj) (by simp) (below_new (Below.refl _ _) _)
    rw [← hW4] at hc2
    have C1 := Lib.hid hc1'; have C2 := Lib.hid hc2
    replace a0 := cell_keep a0 al hbe; replace a1 := cell_keep a1 al hbe; replace a2 := cell_keep a2 al hbe; replace l0 := cell_keep l0 ll hbe; replace l1 := cell_keep l1 ll hbe; replace al := lt_keep al hbe; replace ll := lt_keep ll hbe; replace B := Lib.hid (below_next B.out hbe)
    have hdt : (distL W H xs a b (s : Int)).getD t (-1) = dv := by rw [List.getD_eq_getElem?_getD, HD.out.1, HDV.out]; rfl
    have c3 := C1.out t ht
    rw [hdt] at c3
    have HDT := Lib.hid hdt
    have hg1l : wz.heap.size < W4.heap.size := by omega
    have hg2l : wz.heap.size + 1 < W4.heap.size := by omega
    have t0 : (0 : Int) ≤ (t : Int) := by omega
    have t1 : (t : Int) < 144 := by omega
    have HS4 := Lib.hid hs4
    clear hc1 hc2 hc1' hbe e1 e2 hs4 hdt
    by_cases hn : dv = -1
    · subst hn
      go_wp2_with (first | (refine wpList_store64b L1 h1 rfl _ _ rfl rfl rfl rfl _ _ rfl _ ?_) | (refine wpList_store64g L2 h2 _ (by simp) rfl _ _ rfl rfl rfl rfl _ _ rfl ?_; rw [← hW4]; clear hW4))
      go_ret2
      exact ⟨none, 0, 0, by rw [HO.out]; rfl, by rw [ANS.out, selTo_none _ (fun i hi => by rw [routeSel]; simp; omega)]; exact OwnI.none_ _ _ _, B.out⟩
    · have hge : 0 ≤ dv := by omega
      have hn' : (dv == -1) = false := by simpa using hn
      go_wp2_with (first | (refine wpList_store64b L1 h1 rfl _ _ rfl rfl rfl rfl _ _ rfl _ ?_) | (refine wpList_store64g L2 h2 _ (by simp) rfl _ _ rfl rfl rfl rfl _ _ rfl ?_; rw [← hW4]; clear hW4))
      refine (cellsThere_any W H A n c xs _ (ha.keep B.out) HF.out.g).mono ?_
      rintro e ws ⟨A1, n1, cc1, rfl, hst, hb⟩
      replace c3 := cell_keep c3 hg1l hb
      replace C1 := Lib.hid (fun j hj => cell_keep (C1.out j hj) hg1l hb); replace C2 := Lib.hid (fun j hj => cell_keep (C2.out j hj) hg2l hb)
      replace hg1l := lt_keep hg1l hb; replace hg2l := lt_keep hg2l hb
      replace a0 := cell_keep a0 al hb; replace a1 := cell_keep a1 al hb; replace a2 := cell_keep a2 al hb; replace l0 := cell_keep l0 ll hb; replace l1 := cell_keep l1 ll hb; replace al := lt_keep al hb; replace ll := lt_keep ll hb; replace B := Lib.hid (below_next B.out hb)
      have ST := Lib.hid hst.rd
      have SL := Lib.hid hst.len
      have hN8 := cells_le (goodB_iff.1 HF.out.g).1 (goodB_iff.1 HF.out.g).2.1
      have n8 : n1 ≤ 64 := by have := cellsTo_len (W := W) (H := H) (hs := xs) (W * H).toNat; have := hst.len; unfold cellsL at *; omega
      have n9 := hst.rd.2.1
      obtain ⟨D1, hD1⟩ : ∃ D, D = distL W H xs a b (s : Int) := ⟨_, rfl⟩
      obtain ⟨D2, hD2⟩ : ∃ D, D = distL W H xs a b (t : Int) := ⟨_, rfl⟩
      have HD1 := Lib.hid hD1; have HD2 := Lib.hid hD2
      rw [← hD1] at C1 HDT; rw [← hD2] at C2
      have BD1 : Hid (∀ i, i < N → -1 ≤ D1.getD i (-1) ∧ D1.getD i (-1) ≤ 64) := Lib.hid (fun i hi => by rw [hD1]; exact dist_lo HF.out HP.out hi)
      have BD2 : Hid (∀ i, i < N → -1 ≤ D2.getD i (-1) ∧ D2.getD i (-1) ≤ 64) := Lib.hid (fun i hi => by rw [hD2]; exact dist_lo HF.out HQ.out hi)
      obtain ⟨fs, hfs⟩ : ∃ fs : Int → Bool, fs = fun x => decide (D1.getD x.toNat (-1) + D2.getD x.toNat (-1) = dv) := ⟨_, rfl⟩
      have FS := Lib.hid (fun x => congrFun hfs x)
      have HFS := Lib.hid hfs
      clear hst hb hN8 hD1 hD2 hfs hge
      go_wp2
      go_loopw [13, 39] (fun v i wr => ∃ (k n' c' : Nat) (A' : Option Addr), k ≤ n1 ∧ i = .int .i64 k ∧ v = .slice A' n' c' ∧ OwnI 3 wr ws.heap.size A' n' c' (((cellsL W H xs).take k).filter fs) ∧ Below ws.heap.size ws wr) (fun _ i _ => n1 - (intOf i).toNat)
      case atStart => exact ⟨0, 0, 0, none, by omega, rfl, rfl, by rw [List.take_zero]; exact OwnI.none_ _ _ _, Below.refl _ _⟩
      case round =>
        obtain ⟨k, n', c', A', hk, rfl, rfl, hown, hbw⟩ := hrel
        have hbsz := hbw.size
        by_cases hlt : k < n1
        · obtain ⟨bb, oo, x, rfl, hg9, hx, x0⟩ := (ST.out.keep hbw).at_ hlt
          have hin := cellsL_mem.1 (List.mem_of_getElem? hx)
          have hxr := (hasB_iff.1 hin).1
          rw [HF.out.wh] at hxr
          obtain ⟨xn, rfl⟩ : ∃ xn : Nat, x = (xn : Int) := ⟨x.toNat, by omega⟩
          have hxn : xn < N := by omega
          have hb1 := BD1.out xn hxn
          have hb2 := BD2.out xn hxn
          have c1 := cell_keep (C1.out xn hxn) hg1l hbw
          have c2 := cell_keep (C2.out xn hxn) hg2l hbw
          have c4 := cell_keep c3 hg1l hbw
          have hfx := FS.out (xn : Int)
          rw [Int.toNat_natCast] at hfx
          generalize D1.getD xn (-1) = x1 at hb1 c1 hfx
          generalize D2.getD xn (-1) = x2 at hb2 c2 hfx
          have hwr : IntKind.i64.wrap (x1 + x2) = x1 + x2 := IntWalk.i64_in _ (by omega)
          have x00 : (0 : Int) ≤ (xn : Int) := by omega
          have x01 : (xn : Int) < 144 := by omega
          have hn' : n' ≤ 64 := by have := List.length_filter_le fs ((cellsL W H xs).take k); rw [List.length_take] at this; have := hown.len; omega
          have hsnoc : ((cellsL W H xs).take (k + 1)).filter fs = ((cellsL W H xs).take k).filter fs ++ if fs (xn : Int) = true then [(xn : Int)] else [] := by
            rw [List.take_add_one, hx, List.filter_append]
            cases h9 : fs (xn : Int) <;> simp [h9]
          have HSN := Lib.hid hsnoc; have HFX := Lib.hid hfx
          have HO2 := Lib.hid hown; have HB := Lib.hid hbw
          clear hx hin hxr hown hbw hfx hsnoc hb1 hb2
          by_cases hE : x1 + x2 = dv
          · have hE' : (x1 + x2 == dv) = true := by simpa using hE
            have hf : fs (xn : Int) = true := by rw [HFX.out]; simpa using hE
            have HFT := Lib.hid hf
            clear hf hE
            go_wp2_with fail
            go_region_held3 (fun w' => w'.cell? ⟨wz.heap.size, xn, none⟩ = some (.int .i64 x1) ∧ w'.cell? ⟨wz.heap.size + 1, xn, none⟩ = some (.int .i64 x2) ∧ w'.cell? ⟨wz.heap.size, t, none⟩ = some (.int .i64 dv)) (first | exact ⟨c1, c2, c4⟩) (first | fail)
            replace HB := Lib.hid (below_drew HB.out); replace HO2 := Lib.hid HO2.out.drew1
            have hbsz2 := HB.out.size
            clear c1 c2 c4 hbsz x0
            generalize wr.drew = wd at *
            go_wp2_with (at_builtin; refine wpList_app1 rfl (.tmp 54) (.tmp 56) 22 3 rfl i0 Try.underlying22 HI.out HZ0.out HZ1.out HZ2.out ws.heap.size A' n' c' (((cellsL W H xs).take k).filter fs) (xn : Int) rfl HO2.out rfl (by omega) hbsz2 ?_; intro A2 c2' w2 hown2 hb2')
            have HO3 := Lib.hid hown2; have HB2 := Lib.hid (HB.out.trans hb2')
            clear hown2 hb2'
            go_wp2
            go_roundw
            case rel => exact ⟨k + 1, n' + 1, c2', A2, by omega, by go_num, rfl, by rw [HSN.out, if_pos HFT.out]; exact HO3.out, HB2.out⟩
            case measure => simp [intOf]; omega
          · have hE' : (x1 + x2 == dv) = false := by simpa using hE
            have hf : fs (xn : Int) = false := by rw [HFX.out]; simpa using hE
            have HFT := Lib.hid hf
            clear hf
            go_wp2_with fail
            go_region_held3 (fun w' => w'.cell? ⟨wz.heap.size, xn, none⟩ = some (.int .i64 x1) ∧ w'.cell? ⟨wz.heap.size + 1, xn, none⟩ = some (.int .i64 x2) ∧ w'.cell? ⟨wz.heap.size, t, none⟩ = some (.int .i64 dv)) (first | exact ⟨c1, c2, c4⟩) (first | fail)
            replace HB := Lib.hid (below_drew HB.out); replace HO2 := Lib.hid HO2.out.drew1
            clear c1 c2 c4 hbsz x0
            generalize wr.drew = wd at *
            go_wp2
            go_roundw
            case rel => exact ⟨k + 1, n', c', A', by omega, by go_num, rfl, by rw [HSN.out, if_neg (by rw [HFT.out]; simp), List.append_nil]; exact HO2.out, HB.out⟩
            case measure => simp [intOf]; omega
        · obtain rfl : k = n1 := by omega
          have HO2 := Lib.hid (hown.lower B.out.size); have HB := Lib.hid (below_next B.out hbw)
          have hd9 : 0 ≤ (distL W H xs a b (s : Int)).getD ((t : Int)).toNat (-1) := by rw [Int.toNat_natCast, ← HD1.out, HDT.out]; omega
          have eR : ((cellsL W H xs).take k).filter fs = onRoutesV W H xs a b (s : Int) (t : Int) := by
            rw [ANS.out, List.take_of_length_le (by have := SL.out; omega), cellsL, sel_filter, HWN.out, HFS.out, HD1.out, HD2.out]
            exact selTo_congr N (fun i hi => by
              have h := on_reach HF.out HP.out HQ.out hd9 hi (d := dv) (by omega)
              rw [← h]; rfl)
          rw [eR] at HO2
          clear hown hbw eR hd9
          go_wp2
          go_ret2
          exact ⟨_, _, _, by rw [HO.out]; rfl, HO2.out, HB.out⟩
  · have ho' : onB W H xs a b [p, q] = false := by simpa using ho
    obtain ⟨W2, hW2⟩ : ∃ W2, W2 = ((w.alloc (.cells #[.int .i64 W, .int .i64 H, .slice A n c] 30)).alloc (.cells #[.int .i64 a, .int .i64 b] 32)).alloc (.cells #[.int .i64 p, .int .i64 q] 3) := ⟨_, rfl⟩
    have hsz : W2.heap.size = w.heap.size + 3 := by rw [hW2]; simp
    have a0 : W2.cell? ⟨w.heap.size, 0, none⟩ = some (.int .i64 W) := by rw [hW2]; go_simp
    have a1 : W2.cell? ⟨w.heap.size, 1, none⟩ = some (.int .i64 H) := by rw [hW2]; go_simp
    have a2 : W2.cell? ⟨w.heap.size, 2, none⟩ = some (.slice A n c) := by rw [hW2]; go_simp
    have l0 : W2.cell? ⟨w.heap.size + 1, 0, none⟩ = some (.int .i64 a) := by rw [hW2]; go_simp
    have l1 : W2.cell? ⟨w.heap.size + 1, 1, none⟩ = some (.int .i64 b) := by rw [hW2]; go_simp
    have q0 : W2.cell? ⟨w.heap.size + 1 + 1, 0, none⟩ = some (.int .i64 p) := by rw [hW2]; go_simp
    have q1 : W2.cell? ⟨w.heap.size + 1 + 1, 1, none⟩ = some (.int .i64 q) := by rw [hW2]; go_simp
    have al : w.heap.size < W2.heap.size := by omega
    have ll : w.heap.size + 1 < W2.heap.size := by omega
    have B := Lib.hid (show Below w.heap.size w W2 by rw [hW2]; exact (((Below.refl _ _).alloc (Nat.le_refl _) _).alloc (by simp) _).alloc (by simp; omega) _)
    have RP := Lib.hid (show Rd W2 (some ⟨w.heap.size + 1 + 1, 0, none⟩) 2 [p, q] from ⟨rfl, by omega, fun k hk => by
      have h2 : k = 0 ∨ k = 1 := by omega
      rcases h2 with rfl | rfl
      · exact ⟨_, 0, _, rfl, by omega, rfl, q0⟩
      · exact ⟨_, 0, _, rfl, by omega, rfl, q1⟩⟩)
    clear q0 q1
    go_enter Try.func32, Try.ntmps32
    go_wp2_with fail
    rw [← hW2]
    clear hW2
    refine (isLeaperOn_any W H A n c xs a b _ 2 2 _ W2 (ha.keep B.out) RP.out).mono ?_
    rw [ho']
    rintro e wv ⟨rfl, hb⟩
    replace a0 := cell_keep a0 al hb; replace a1 := cell_keep a1 al hb; replace a2 := cell_keep a2 al hb; replace l0 := cell_keep l0 ll hb; replace l1 := cell_keep l1 ll hb; replace al := lt_keep al hb; replace ll := lt_keep ll hb
    replace B := Lib.hid (below_next B.out hb)
    clear hb RP hsz
    go_wp2
    go_ret2
    exact ⟨none, 0, 0, by rw [show onB W H xs a b [p, q] = false by rw [ho']]; rfl, by rw [onRoutesV, if_neg (by rw [ho']; simp)]; exact OwnI.none_ _ _ _, B.out⟩

end Go.Proofs.Ytoangjjikmjkgaa

namespace Go.Proofs.Ytoangjjikmjkgaa
open Go.RowKit

theorem len_CellsOnRoutes (W H : Int) (xs : List Int) (a b p q : Int) : (onRoutesV W H xs a b p q).length ≤ 1000000 := by
  unfold onRoutesV
  split
  · rename_i h
    have hF := on_facts (onB_two h).1
    have := selTo_len (routeSel (distL W H xs a b p) (distL W H xs a b q) (distV W H xs a b p q)) (W * H).toNat
    have := hF.n; have := hF.wh; omega
  · simp

end Go.Proofs.Ytoangjjikmjkgaa

namespace Go.Proofs.Ytoangjjikmjkgaa
open Go.RowKit

set_option maxHeartbeats 4000000 in
set_option maxRecDepth 100000 in
theorem law_CellsOnRoutes (w : World) (V0 G0 : Int) (A0 : Option Addr) (n0 c0 : Nat) (xs0 : List Int) (ha0 : Rd w A0 n0 xs0) (la1 lb1 : Int) (q2 : Int) (q3 : Int) :
    Calls Try.prog 9 #[brd V0 G0 A0 n0 c0, lpr la1 lb1, .int .i64 q2, .int .i64 q3] w fun e w' => e = .returned (.bool true) ∧ Below w.heap.size w w' := by
  have hn9 := ha0.2.1
  by_cases hnB : (n0 : Int) ≤ 1048576
  rotate_left
  · go_enter Try.func9, Try.ntmps9
    go_wp2_with fail
    refine (szBoard_any _ _ _ _ _ _ _ hn9 (by omega) (by omega)).mono ?_
    rintro e wv ⟨rfl, hb⟩
    have B := Lib.hid (below_box (below_box hb))
    clear hb
    go_wp2
    go_ret
    exact ⟨rfl, B.out⟩
  · go_enter Try.func9, Try.ntmps9
    go_wp2_with fail
    refine (szBoard_any _ _ _ _ _ _ _ hn9 (by omega) (by omega)).mono ?_
    rintro e wv ⟨rfl, hb⟩
    have hbx0 := below_box hb
    have a0 : wv.cell? ⟨w.heap.size, 0, none⟩ = some (.int .i64 V0) := by simpa using newbox hbx0 0
    have a1 : wv.cell? ⟨w.heap.size, 1, none⟩ = some (.int .i64 G0) := by simpa using newbox hbx0 1
    have a2 : wv.cell? ⟨w.heap.size, 2, none⟩ = some (.slice A0 n0 c0) := by simpa using newbox hbx0 2
    have al : w.heap.size < wv.heap.size := by simpa using newbox_lt hbx0
    have l0 : wv.cell? ⟨w.heap.size + 1, 0, none⟩ = some (.int .i64 la1) := by simpa using newbox hb 0
    have l1 : wv.cell? ⟨w.heap.size + 1, 1, none⟩ = some (.int .i64 lb1) := by simpa using newbox hb 1
    have ll : w.heap.size + 1 < wv.heap.size := by simpa using newbox_lt hb
    have B := Lib.hid (below_box hbx0)
    have hs1 := Lib.hid (below_box hbx0).size
    have hz := Lib.hid ll
    clear hb hbx0
    go_wp2_with fail
    go_region_held3 (fun w' => w'.cell? ⟨w.heap.size, 0, none⟩ = some (.int .i64 V0) ∧ w'.cell? ⟨w.heap.size, 1, none⟩ = some (.int .i64 G0) ∧ w'.cell? ⟨w.heap.size, 2, none⟩ = some (.slice A0 n0 c0) ∧ w'.cell? ⟨w.heap.size + 1, 0, none⟩ = some (.int .i64 la1) ∧ w'.cell? ⟨w.heap.size + 1, 1, none⟩ = some (.int .i64 lb1)) (first | exact ⟨a0, a1, a2, l0, l1⟩)
      (first
        | (go_at_call 12; refine (toBoard_any _ _ _ _ _ _ _ (by exact (ha0.keep B.out).drew1) (by omega)).mono ?_; rintro e wv ⟨gs, rfl, owns, hb⟩; (try replace hb := below_undrew hb); replace a0 := cell_keep a0 al hb; replace a1 := cell_keep a1 al hb; replace a2 := cell_keep a2 al hb; replace al := lt_keep al hb; replace l0 := cell_keep l0 ll hb; replace l1 := cell_keep l1 ll hb; replace ll := lt_keep ll hb; (try replace Os := Lib.hid (Os.out.keep hb)); have hs2 := Lib.hid hb.size; replace B := Lib.hid (below_next B.out hb); have Os := Lib.hid owns; have SPs := Lib.hid owns.span; clear owns; clear hb)
        | (go_at_call 13; refine (toLeaper_any _ _ _).mono ?_; rintro e wv ⟨rfl, hb⟩; (try replace hb := below_undrew hb); replace a0 := cell_keep a0 al hb; replace a1 := cell_keep a1 al hb; replace a2 := cell_keep a2 al hb; replace al := lt_keep al hb; replace l0 := cell_keep l0 ll hb; replace l1 := cell_keep l1 ll hb; replace ll := lt_keep ll hb; (try replace Os := Lib.hid (Os.out.keep hb)); have hs3 := Lib.hid hb.size; replace B := Lib.hid (below_next B.out hb); clear hb)
        | (go_at_call 31; refine (spec_CellsOnRoutes _ _ _ _ _ _ _ _ _ _ _ (by exact Os.out.rd)).mono ?_; rintro e wv ⟨AW, nW, cW, rfl, ownW, hb⟩; (try replace hb := below_undrew hb); replace a0 := cell_keep a0 al hb; replace a1 := cell_keep a1 al hb; replace a2 := cell_keep a2 al hb; replace al := lt_keep al hb; replace l0 := cell_keep l0 ll hb; replace l1 := cell_keep l1 ll hb; replace ll := lt_keep ll hb; have hs4 := Lib.hid hb.size; replace B := Lib.hid (below_next B.out hb); have OW := Lib.hid ownW; have SPW := Lib.hid ownW.span; clear ownW; clear hb))
    all_goals
      clear Os SPs
      go_wp2_with fail
      refine (toBoard_any _ _ _ _ _ _ _ (ha0.keep B.out) (by omega)).mono ?_
      rintro e wv ⟨gx, rfl, ownx, hb⟩
      replace a0 := cell_keep a0 al hb
      replace a1 := cell_keep a1 al hb
      replace a2 := cell_keep a2 al hb
      replace al := lt_keep al hb
      replace l0 := cell_keep l0 ll hb
      replace l1 := cell_keep l1 ll hb
      replace ll := lt_keep ll hb
      replace OW := Lib.hid (OW.out.keep hb)
      have hs5 := Lib.hid hb.size
      replace B := Lib.hid (below_next B.out hb)
      have Ox := Lib.hid ownx; have SPx := Lib.hid ownx.span; clear ownx; clear hb
      obtain ⟨wx, hwx⟩ : ∃ wx, wx = wv := ⟨_, rfl⟩
      subst hwx
      go_wp2_with fail
      have hb := Below.refl (wx.alloc (.cells #[.int .i64 V0, .int .i64 G0, .slice (some ⟨gx, 0, none⟩) n0 n0] 30)).heap.size (wx.alloc (.cells #[.int .i64 V0, .int .i64 G0, .slice (some ⟨gx, 0, none⟩) n0 n0] 30))
      have x0 : (wx.alloc (.cells #[.int .i64 V0, .int .i64 G0, .slice (some ⟨gx, 0, none⟩) n0 n0] 30)).cell? ⟨wx.heap.size, 0, none⟩ = some (.int .i64 V0) := by simp
      have x1 : (wx.alloc (.cells #[.int .i64 V0, .int .i64 G0, .slice (some ⟨gx, 0, none⟩) n0 n0] 30)).cell? ⟨wx.heap.size, 1, none⟩ = some (.int .i64 G0) := by simp
      have x2 : (wx.alloc (.cells #[.int .i64 V0, .int .i64 G0, .slice (some ⟨gx, 0, none⟩) n0 n0] 30)).cell? ⟨wx.heap.size, 2, none⟩ = some (.slice (some ⟨gx, 0, none⟩) n0 n0) := by simp
      have xl := newbox_lt hb
      have hzx := Lib.hid xl
      replace hb := below_box hb
      replace a0 := cell_keep a0 al hb
      replace a1 := cell_keep a1 al hb
      replace a2 := cell_keep a2 al hb
      replace al := lt_keep al hb
      replace l0 := cell_keep l0 ll hb
      replace l1 := cell_keep l1 ll hb
      replace ll := lt_keep ll hb
      replace OW := Lib.hid (OW.out.keep hb)
      replace Ox := Lib.hid (Ox.out.keep hb)
      have hs6 := Lib.hid hb.size
      replace B := Lib.hid (below_next B.out hb)
      clear hb
      have hx0 : gx < wx.heap.size := (SPx.out _ rfl).2
      generalize wx.alloc (.cells #[.int .i64 V0, .int .i64 G0, .slice (some ⟨gx, 0, none⟩) n0 n0] 30) = wv at *
      generalize hx : wx.heap.size = x at *
      go_wp2_with fail
      go_region_held3 (fun w' => w'.cell? ⟨w.heap.size, 0, none⟩ = some (.int .i64 V0) ∧ w'.cell? ⟨w.heap.size, 1, none⟩ = some (.int .i64 G0) ∧ w'.cell? ⟨w.heap.size, 2, none⟩ = some (.slice A0 n0 c0) ∧ w'.cell? ⟨w.heap.size + 1, 0, none⟩ = some (.int .i64 la1) ∧ w'.cell? ⟨w.heap.size + 1, 1, none⟩ = some (.int .i64 lb1) ∧ w'.cell? ⟨x, 0, none⟩ = some (.int .i64 V0) ∧ w'.cell? ⟨x, 1, none⟩ = some (.int .i64 G0) ∧ w'.cell? ⟨x, 2, none⟩ = some (.slice (some ⟨gx, 0, none⟩) n0 n0)) (first | exact ⟨a0, a1, a2, l0, l1, x0, x1, x2⟩)
        (first
          | (go_at_call 13; refine (toLeaper_any _ _ _).mono ?_; rintro e wv ⟨rfl, hb⟩; (try replace hb := below_undrew hb); replace a0 := cell_keep a0 al hb; replace a1 := cell_keep a1 al hb; replace a2 := cell_keep a2 al hb; replace al := lt_keep al hb; replace l0 := cell_keep l0 ll hb; replace l1 := cell_keep l1 ll hb; replace ll := lt_keep ll hb; replace x0 := cell_keep x0 xl hb; replace x1 := cell_keep x1 xl hb; replace x2 := cell_keep x2 xl hb; replace xl := lt_keep xl hb; replace OW := Lib.hid (OW.out.keep hb); replace Ox := Lib.hid (Ox.out.keep hb); have hs7 := Lib.hid hb.size; replace B := Lib.hid (below_next B.out hb); clear hb)
          | (go_at_call 32; refine (impl_CellsOnRoutes _ _ _ _ _ _ _ _ _ _ _ (by exact Ox.out.rd)).mono ?_; rintro e wv ⟨AG, nG, cG, rfl, ownG, hb⟩; (try replace hb := below_undrew hb); replace a0 := cell_keep a0 al hb; replace a1 := cell_keep a1 al hb; replace a2 := cell_keep a2 al hb; replace al := lt_keep al hb; replace l0 := cell_keep l0 ll hb; replace l1 := cell_keep l1 ll hb; replace ll := lt_keep ll hb; replace x0 := cell_keep x0 xl hb; replace x1 := cell_keep x1 xl hb; replace x2 := cell_keep x2 xl hb; replace xl := lt_keep xl hb; replace OW := Lib.hid (OW.out.keep hb); replace Ox := Lib.hid (Ox.out.keep hb); have hs8 := Lib.hid hb.size; replace B := Lib.hid (below_next B.out hb); have OG := Lib.hid ownG; have SPG := Lib.hid ownG.span; clear ownG; clear hb))
      have SZ := Lib.hid (show nG ≤ 1000000 by rw [← OG.out.len]; exact len_CellsOnRoutes _ _ _ _ _ _ _)
      go_wp2_with fail
      refine (eqIntS_any _ _ _ _ _ _ _ _ _ OG.out.rd OW.out.rd).mono ?_
      simp only [decide_true]
      rintro e wv ⟨rfl, hb⟩
      replace a0 := cell_keep a0 al hb
      replace a1 := cell_keep a1 al hb
      replace a2 := cell_keep a2 al hb
      replace al := lt_keep al hb
      replace l0 := cell_keep l0 ll hb
      replace l1 := cell_keep l1 ll hb
      replace ll := lt_keep ll hb
      replace x0 := cell_keep x0 xl hb
      replace x1 := cell_keep x1 xl hb
      replace x2 := cell_keep x2 xl hb
      replace xl := lt_keep xl hb
      replace OW := Lib.hid (OW.out.keep hb)
      replace Ox := Lib.hid (Ox.out.keep hb)
      replace OG := Lib.hid (OG.out.keep hb)
      have hs9 := Lib.hid hb.size
      replace B := Lib.hid (below_next B.out hb)
      clear hb
      go_wp2_with fail
      go_region_held3 (fun w' => w'.cell? ⟨w.heap.size, 0, none⟩ = some (.int .i64 V0) ∧ w'.cell? ⟨w.heap.size, 1, none⟩ = some (.int .i64 G0) ∧ w'.cell? ⟨w.heap.size, 2, none⟩ = some (.slice A0 n0 c0) ∧ w'.cell? ⟨w.heap.size + 1, 0, none⟩ = some (.int .i64 la1) ∧ w'.cell? ⟨w.heap.size + 1, 1, none⟩ = some (.int .i64 lb1) ∧ w'.cell? ⟨x, 0, none⟩ = some (.int .i64 V0) ∧ w'.cell? ⟨x, 1, none⟩ = some (.int .i64 G0) ∧ w'.cell? ⟨x, 2, none⟩ = some (.slice (some ⟨gx, 0, none⟩) n0 n0)) (first | exact ⟨a0, a1, a2, l0, l1, x0, x1, x2⟩)
        (first
          | (go_at_call 12; refine (toBoard_any _ _ _ _ _ _ _ (by exact (ha0.keep B.out).drew1) (by omega)).mono ?_; rintro e wv ⟨gy, rfl, owny, hb⟩; (try replace hb := below_undrew hb); replace a0 := cell_keep a0 al hb; replace a1 := cell_keep a1 al hb; replace a2 := cell_keep a2 al hb; replace al := lt_keep al hb; replace l0 := cell_keep l0 ll hb; replace l1 := cell_keep l1 ll hb; replace ll := lt_keep ll hb; replace x0 := cell_keep x0 xl hb; replace x1 := cell_keep x1 xl hb; replace x2 := cell_keep x2 xl hb; replace xl := lt_keep xl hb; replace OW := Lib.hid (OW.out.keep hb); replace Ox := Lib.hid (Ox.out.keep hb); replace OG := Lib.hid (OG.out.keep hb); have hs10 := Lib.hid hb.size; replace B := Lib.hid (below_next B.out hb); have Oy := Lib.hid owny; have SPy := Lib.hid owny.span; clear owny; clear hb)
          | (go_at_call 15; refine (eqBoard_any _ _ _ _ _ _ _ _ _ _ _ Ox.out.rd Oy.out.rd).mono ?_; simp only [decide_true]; rintro e wv ⟨rfl, hb⟩; (try replace hb := below_undrew hb); replace a0 := cell_keep a0 al hb; replace a1 := cell_keep a1 al hb; replace a2 := cell_keep a2 al hb; replace al := lt_keep al hb; replace l0 := cell_keep l0 ll hb; replace l1 := cell_keep l1 ll hb; replace ll := lt_keep ll hb; replace x0 := cell_keep x0 xl hb; replace x1 := cell_keep x1 xl hb; replace x2 := cell_keep x2 xl hb; replace xl := lt_keep xl hb; replace OW := Lib.hid (OW.out.keep hb); replace Ox := Lib.hid (Ox.out.keep hb); replace OG := Lib.hid (OG.out.keep hb); have hs11 := Lib.hid hb.size; replace B := Lib.hid (below_next B.out hb); clear hb Oy SPy))
      go_wp2_with fail
      refine (markBoard_any _ _ _ _ _ _ 1 _ _ Ox.out (by omega) (by omega)).mono ?_
      rintro e wv ⟨rfl, Ox', hg⟩
      replace a0 := cell_mark a0 hg (row_ne fun b hb => by have := SPx.out b hb; have := hz.out; have := hzx.out; have := hs1.out; have := hs2.out; have := hs3.out; have := hs4.out; have := hs5.out; have := hs6.out; have := hs7.out; have := hs8.out; have := hs9.out; have := hs10.out; have := hs11.out; omega)
      replace a1 := cell_mark a1 hg (row_ne fun b hb => by have := SPx.out b hb; have := hz.out; have := hzx.out; have := hs1.out; have := hs2.out; have := hs3.out; have := hs4.out; have := hs5.out; have := hs6.out; have := hs7.out; have := hs8.out; have := hs9.out; have := hs10.out; have := hs11.out; omega)
      replace a2 := cell_mark a2 hg (row_ne fun b hb => by have := SPx.out b hb; have := hz.out; have := hzx.out; have := hs1.out; have := hs2.out; have := hs3.out; have := hs4.out; have := hs5.out; have := hs6.out; have := hs7.out; have := hs8.out; have := hs9.out; have := hs10.out; have := hs11.out; omega)
      replace al := Nat.lt_of_lt_of_le al hg.size
      replace l0 := cell_mark l0 hg (row_ne fun b hb => by have := SPx.out b hb; have := hz.out; have := hzx.out; have := hs1.out; have := hs2.out; have := hs3.out; have := hs4.out; have := hs5.out; have := hs6.out; have := hs7.out; have := hs8.out; have := hs9.out; have := hs10.out; have := hs11.out; omega)
      replace l1 := cell_mark l1 hg (row_ne fun b hb => by have := SPx.out b hb; have := hz.out; have := hzx.out; have := hs1.out; have := hs2.out; have := hs3.out; have := hs4.out; have := hs5.out; have := hs6.out; have := hs7.out; have := hs8.out; have := hs9.out; have := hs10.out; have := hs11.out; omega)
      replace ll := Nat.lt_of_lt_of_le ll hg.size
      replace x0 := cell_mark x0 hg (row_ne fun b hb => by have := SPx.out b hb; have := hz.out; have := hzx.out; have := hs1.out; have := hs2.out; have := hs3.out; have := hs4.out; have := hs5.out; have := hs6.out; have := hs7.out; have := hs8.out; have := hs9.out; have := hs10.out; have := hs11.out; omega)
      replace x1 := cell_mark x1 hg (row_ne fun b hb => by have := SPx.out b hb; have := hz.out; have := hzx.out; have := hs1.out; have := hs2.out; have := hs3.out; have := hs4.out; have := hs5.out; have := hs6.out; have := hs7.out; have := hs8.out; have := hs9.out; have := hs10.out; have := hs11.out; omega)
      replace x2 := cell_mark x2 hg (row_ne fun b hb => by have := SPx.out b hb; have := hz.out; have := hzx.out; have := hs1.out; have := hs2.out; have := hs3.out; have := hs4.out; have := hs5.out; have := hs6.out; have := hs7.out; have := hs8.out; have := hs9.out; have := hs10.out; have := hs11.out; omega)
      replace xl := Nat.lt_of_lt_of_le xl hg.size
      replace OW := Lib.hid (OW.out.other hg fun a ha => row_ne fun b hb => by have := SPW.out a ha; have := SPx.out b hb; have := hz.out; have := hzx.out; have := hs1.out; have := hs2.out; have := hs3.out; have := hs4.out; have := hs5.out; have := hs6.out; have := hs7.out; have := hs8.out; have := hs9.out; have := hs10.out; have := hs11.out; omega)
      replace OG := Lib.hid (OG.out.other hg fun a ha => row_ne fun b hb => by have := SPG.out a ha; have := SPx.out b hb; have := hz.out; have := hzx.out; have := hs1.out; have := hs2.out; have := hs3.out; have := hs4.out; have := hs5.out; have := hs6.out; have := hs7.out; have := hs8.out; have := hs9.out; have := hs10.out; have := hs11.out; omega)
      replace B := Lib.hid (B.out.grown hg B.out.size (row_ge fun b hb => by have := SPx.out b hb; have := hz.out; have := hzx.out; have := hs1.out; have := hs2.out; have := hs3.out; have := hs4.out; have := hs5.out; have := hs6.out; have := hs7.out; have := hs8.out; have := hs9.out; have := hs10.out; have := hs11.out; omega))
      have hs12 := Lib.hid hg.size
      replace Ox := Lib.hid Ox'; clear Ox' hg
      go_wp2_with fail
      refine (eqIntS_any _ _ _ _ _ _ _ _ _ OG.out.rd OW.out.rd).mono ?_
      simp only [decide_true]
      rintro e wv ⟨rfl, hb⟩
      replace a0 := cell_keep a0 al hb
      replace a1 := cell_keep a1 al hb
      replace a2 := cell_keep a2 al hb
      replace al := lt_keep al hb
      replace l0 := cell_keep l0 ll hb
      replace l1 := cell_keep l1 ll hb
      replace ll := lt_keep ll hb
      replace x0 := cell_keep x0 xl hb
      replace x1 := cell_keep x1 xl hb
      replace x2 := cell_keep x2 xl hb
      replace xl := lt_keep xl hb
      replace OW := Lib.hid (OW.out.keep hb)
      replace Ox := Lib.hid (Ox.out.keep hb)
      replace OG := Lib.hid (OG.out.keep hb)
      have hs13 := Lib.hid hb.size
      replace B := Lib.hid (below_next B.out hb)
      clear hb
      go_wp2_with fail
      refine (markIntS_any _ _ _ _ 1 _ _ OG.out (by omega) (by have := SZ.out; omega)).mono ?_
      rintro e wv ⟨rfl, OG', hg⟩
      replace a0 := cell_mark a0 hg (row_ne fun b hb => by have := SPG.out b hb; have := hz.out; have := hzx.out; have := hs1.out; have := hs2.out; have := hs3.out; have := hs4.out; have := hs5.out; have := hs6.out; have := hs7.out; have := hs8.out; have := hs9.out; have := hs10.out; have := hs11.out; have := hs12.out; have := hs13.out; omega)
      replace a1 := cell_mark a1 hg (row_ne fun b hb => by have := SPG.out b hb; have := hz.out; have := hzx.out; have := hs1.out; have := hs2.out; have := hs3.out; have := hs4.out; have := hs5.out; have := hs6.out; have := hs7.out; have := hs8.out; have := hs9.out; have := hs10.out; have := hs11.out; have := hs12.out; have := hs13.out; omega)
      replace a2 := cell_mark a2 hg (row_ne fun b hb => by have := SPG.out b hb; have := hz.out; have := hzx.out; have := hs1.out; have := hs2.out; have := hs3.out; have := hs4.out; have := hs5.out; have := hs6.out; have := hs7.out; have := hs8.out; have := hs9.out; have := hs10.out; have := hs11.out; have := hs12.out; have := hs13.out; omega)
      replace al := Nat.lt_of_lt_of_le al hg.size
      replace l0 := cell_mark l0 hg (row_ne fun b hb => by have := SPG.out b hb; have := hz.out; have := hzx.out; have := hs1.out; have := hs2.out; have := hs3.out; have := hs4.out; have := hs5.out; have := hs6.out; have := hs7.out; have := hs8.out; have := hs9.out; have := hs10.out; have := hs11.out; have := hs12.out; have := hs13.out; omega)
      replace l1 := cell_mark l1 hg (row_ne fun b hb => by have := SPG.out b hb; have := hz.out; have := hzx.out; have := hs1.out; have := hs2.out; have := hs3.out; have := hs4.out; have := hs5.out; have := hs6.out; have := hs7.out; have := hs8.out; have := hs9.out; have := hs10.out; have := hs11.out; have := hs12.out; have := hs13.out; omega)
      replace ll := Nat.lt_of_lt_of_le ll hg.size
      replace x0 := cell_mark x0 hg (row_ne fun b hb => by have := SPG.out b hb; have := hz.out; have := hzx.out; have := hs1.out; have := hs2.out; have := hs3.out; have := hs4.out; have := hs5.out; have := hs6.out; have := hs7.out; have := hs8.out; have := hs9.out; have := hs10.out; have := hs11.out; have := hs12.out; have := hs13.out; omega)
      replace x1 := cell_mark x1 hg (row_ne fun b hb => by have := SPG.out b hb; have := hz.out; have := hzx.out; have := hs1.out; have := hs2.out; have := hs3.out; have := hs4.out; have := hs5.out; have := hs6.out; have := hs7.out; have := hs8.out; have := hs9.out; have := hs10.out; have := hs11.out; have := hs12.out; have := hs13.out; omega)
      replace x2 := cell_mark x2 hg (row_ne fun b hb => by have := SPG.out b hb; have := hz.out; have := hzx.out; have := hs1.out; have := hs2.out; have := hs3.out; have := hs4.out; have := hs5.out; have := hs6.out; have := hs7.out; have := hs8.out; have := hs9.out; have := hs10.out; have := hs11.out; have := hs12.out; have := hs13.out; omega)
      replace xl := Nat.lt_of_lt_of_le xl hg.size
      replace OW := Lib.hid (OW.out.other hg fun a ha => row_ne fun b hb => by have := SPW.out a ha; have := SPG.out b hb; have := hz.out; have := hzx.out; have := hs1.out; have := hs2.out; have := hs3.out; have := hs4.out; have := hs5.out; have := hs6.out; have := hs7.out; have := hs8.out; have := hs9.out; have := hs10.out; have := hs11.out; have := hs12.out; have := hs13.out; omega)
      replace Ox := Lib.hid (Ox.out.other hg fun a ha => row_ne fun b hb => by have := SPx.out a ha; have := SPG.out b hb; have := hz.out; have := hzx.out; have := hs1.out; have := hs2.out; have := hs3.out; have := hs4.out; have := hs5.out; have := hs6.out; have := hs7.out; have := hs8.out; have := hs9.out; have := hs10.out; have := hs11.out; have := hs12.out; have := hs13.out; omega)
      replace B := Lib.hid (B.out.grown hg B.out.size (row_ge fun b hb => by have := SPG.out b hb; have := hz.out; have := hzx.out; have := hs1.out; have := hs2.out; have := hs3.out; have := hs4.out; have := hs5.out; have := hs6.out; have := hs7.out; have := hs8.out; have := hs9.out; have := hs10.out; have := hs11.out; have := hs12.out; have := hs13.out; omega))
      have hs14 := Lib.hid hg.size
      replace OG := Lib.hid OG'; clear OG' hg
      go_wp2_with fail
      refine (heldIntS_any _ _ _ 1 _ OG.out.rd (by omega) (by have := SZ.out; omega)).mono ?_
      rintro e wv ⟨rfl, hb⟩
      replace a0 := cell_keep a0 al hb
      replace a1 := cell_keep a1 al hb
      replace a2 := cell_keep a2 al hb
      replace al := lt_keep al hb
      replace l0 := cell_keep l0 ll hb
      replace l1 := cell_keep l1 ll hb
      replace ll := lt_keep ll hb
      replace x0 := cell_keep x0 xl hb
      replace x1 := cell_keep x1 xl hb
      replace x2 := cell_keep x2 xl hb
      replace xl := lt_keep xl hb
      replace OW := Lib.hid (OW.out.keep hb)
      replace Ox := Lib.hid (Ox.out.keep hb)
      replace OG := Lib.hid (OG.out.keep hb)
      have hs15 := Lib.hid hb.size
      replace B := Lib.hid (below_next B.out hb)
      clear hb
      go_wp2_with fail
      go_region_held3 (fun w' => w'.cell? ⟨w.heap.size, 0, none⟩ = some (.int .i64 V0) ∧ w'.cell? ⟨w.heap.size, 1, none⟩ = some (.int .i64 G0) ∧ w'.cell? ⟨w.heap.size, 2, none⟩ = some (.slice A0 n0 c0) ∧ w'.cell? ⟨w.heap.size + 1, 0, none⟩ = some (.int .i64 la1) ∧ w'.cell? ⟨w.heap.size + 1, 1, none⟩ = some (.int .i64 lb1) ∧ w'.cell? ⟨x, 0, none⟩ = some (.int .i64 V0) ∧ w'.cell? ⟨x, 1, none⟩ = some (.int .i64 G0) ∧ w'.cell? ⟨x, 2, none⟩ = some (.slice (some ⟨gx, 0, none⟩) n0 n0)) (first | exact ⟨a0, a1, a2, l0, l1, x0, x1, x2⟩)
        (first
          | (go_at_call 12; refine (toBoard_any _ _ _ _ _ _ _ (by exact (ha0.keep B.out).drew1) (by omega)).mono ?_; rintro e wv ⟨gz, rfl, ownz, hb⟩; (try replace hb := below_undrew hb); replace a0 := cell_keep a0 al hb; replace a1 := cell_keep a1 al hb; replace a2 := cell_keep a2 al hb; replace al := lt_keep al hb; replace l0 := cell_keep l0 ll hb; replace l1 := cell_keep l1 ll hb; replace ll := lt_keep ll hb; replace x0 := cell_keep x0 xl hb; replace x1 := cell_keep x1 xl hb; replace x2 := cell_keep x2 xl hb; replace xl := lt_keep xl hb; replace OW := Lib.hid (OW.out.keep hb); replace Ox := Lib.hid (Ox.out.keep hb); replace OG := Lib.hid (OG.out.keep hb); (try replace Oz := Lib.hid (Oz.out.keep hb)); have hs16 := Lib.hid hb.size; replace B := Lib.hid (below_next B.out hb); have Oz := Lib.hid ownz; have SPz := Lib.hid ownz.span; clear ownz; clear hb)
          | (go_at_call 13; refine (toLeaper_any _ _ _).mono ?_; rintro e wv ⟨rfl, hb⟩; (try replace hb := below_undrew hb); replace a0 := cell_keep a0 al hb; replace a1 := cell_keep a1 al hb; replace a2 := cell_keep a2 al hb; replace al := lt_keep al hb; replace l0 := cell_keep l0 ll hb; replace l1 := cell_keep l1 ll hb; replace ll := lt_keep ll hb; replace x0 := cell_keep x0 xl hb; replace x1 := cell_keep x1 xl hb; replace x2 := cell_keep x2 xl hb; replace xl := lt_keep xl hb; replace OW := Lib.hid (OW.out.keep hb); replace Ox := Lib.hid (Ox.out.keep hb); replace OG := Lib.hid (OG.out.keep hb); (try replace Oz := Lib.hid (Oz.out.keep hb)); have hs17 := Lib.hid hb.size; replace B := Lib.hid (below_next B.out hb); clear hb)
          | (go_at_call 32; refine (impl_CellsOnRoutes _ _ _ _ _ _ _ _ _ _ _ (by exact Oz.out.rd)).mono ?_; rintro e wv ⟨AH, nH, cH, rfl, ownH, hb⟩; (try replace hb := below_undrew hb); replace a0 := cell_keep a0 al hb; replace a1 := cell_keep a1 al hb; replace a2 := cell_keep a2 al hb; replace al := lt_keep al hb; replace l0 := cell_keep l0 ll hb; replace l1 := cell_keep l1 ll hb; replace ll := lt_keep ll hb; replace x0 := cell_keep x0 xl hb; replace x1 := cell_keep x1 xl hb; replace x2 := cell_keep x2 xl hb; replace xl := lt_keep xl hb; replace OW := Lib.hid (OW.out.keep hb); replace Ox := Lib.hid (Ox.out.keep hb); replace OG := Lib.hid (OG.out.keep hb); have hs18 := Lib.hid hb.size; replace B := Lib.hid (below_next B.out hb); have OH := Lib.hid ownH; have SPH := Lib.hid ownH.span; clear ownH; clear hb))
      all_goals
        clear Oz SPz SPH
        go_wp2_with fail
        refine (eqIntS_any _ _ _ _ _ _ _ _ _ OH.out.rd OW.out.rd).mono ?_
        simp only [decide_true]
        rintro e wv ⟨rfl, hb⟩
        replace a0 := cell_keep a0 al hb
        replace a1 := cell_keep a1 al hb
        replace a2 := cell_keep a2 al hb
        replace al := lt_keep al hb
        replace l0 := cell_keep l0 ll hb
        replace l1 := cell_keep l1 ll hb
        replace ll := lt_keep ll hb
        replace x0 := cell_keep x0 xl hb
        replace x1 := cell_keep x1 xl hb
        replace x2 := cell_keep x2 xl hb
        replace xl := lt_keep xl hb
        replace OW := Lib.hid (OW.out.keep hb)
        replace Ox := Lib.hid (Ox.out.keep hb)
        replace OG := Lib.hid (OG.out.keep hb)
        have hs19 := Lib.hid hb.size
        replace B := Lib.hid (below_next B.out hb)
        clear hb OH
        go_wp2_with fail
        refine (heldIntS_any _ _ _ 1 _ OG.out.rd (by omega) (by have := SZ.out; omega)).mono ?_
        rintro e wv ⟨rfl, hb⟩
        replace a0 := cell_keep a0 al hb
        replace a1 := cell_keep a1 al hb
        replace a2 := cell_keep a2 al hb
        replace al := lt_keep al hb
        replace l0 := cell_keep l0 ll hb
        replace l1 := cell_keep l1 ll hb
        replace ll := lt_keep ll hb
        replace x0 := cell_keep x0 xl hb
        replace x1 := cell_keep x1 xl hb
        replace x2 := cell_keep x2 xl hb
        replace xl := lt_keep xl hb
        replace OW := Lib.hid (OW.out.keep hb)
        replace Ox := Lib.hid (Ox.out.keep hb)
        replace OG := Lib.hid (OG.out.keep hb)
        have hs20 := Lib.hid hb.size
        replace B := Lib.hid (below_next B.out hb)
        clear hb
        go_wp2
        go_ret
        exact ⟨rfl, B.out⟩

end Go.Proofs.Ytoangjjikmjkgaa
