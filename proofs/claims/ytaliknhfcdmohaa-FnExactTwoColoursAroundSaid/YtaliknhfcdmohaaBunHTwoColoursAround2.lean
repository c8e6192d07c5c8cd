/-
  Contracts: slices.Compact at ints, in the words of rows that are owned.
  Contracts: the leaps from a cell around, in the program.
  Contracts: LeapsAround, in the model and in the program.
  Contracts: distances around, in the model.
  Contracts: leaps onward around, as a map; DistanceAround.
  Contracts: the distance of two cells; DistanceAround.
  Contracts: leaps onward around, as a map whose keys are known.
  Contracts: CountParts, in the model and in the program.
  Plain facts: levels of a search in width: one leap more is at most one farther, whoever is reached has one before it.
  Plain facts: leaps around lead back; two colours by the distances from one cell of each part.
  Plain facts: two colours around: all cells' distances say the same as those from the first cell of each part.
  Contracts: TwoColoursAround, the model.
  Contracts: haveTwoColours' closure, slices.ContainsFunc with it.
  Contracts: haveTwoColours; TwoColoursAround, the program.
  The walk of the exact law on TwoColoursAround: it answers true, and what was there stays.
-/
import Derived.Test.YtaliknhfcdmohaaO0
import Derived.Test.YtaliknhfcdmohaaU0
import Derived.Test.YtaliknhfcdmohaaO3
import Derived.Test.YtaliknhfcdmohaaO4
import Derived.Test.YtaliknhfcdmohaaS4
import Derived.Test.YtaliknhfcdmohaaO7
import Derived.Test.YtaliknhfcdmohaaT3
import Derived.Test.YtaliknhfcdmohaaT9c
import Derived.Test.YtaliknhfcdmohaaBunHTwoColoursAround1
import Derived.Test.YtaliknhfcdmohaaQ4
import Derived.Great.BuildSlice
import Derived.Test.YtaliknhfcdmohaaLaw0
namespace Go.Proofs.Ytaliknhfcdmohaa
open Go.RowKit

theorem OwnI.cutI {E : TypeId} {w : World} {lo : Nat} {A : Option Addr} {n c k : Nat} {xs : List Int} (h : OwnI E w lo A n c xs) (hk : k ≤ n) : OwnI E w lo A k c (xs.take k) := by
  have hl := h.len
  refine ⟨by rw [List.length_map, List.length_take]; omega, ?_⟩
  rcases h.2 with ⟨hv, hn⟩ | ⟨g, cap, cur, hv, hb, hg, hnc, hm, hcs, htake⟩
  · injection hv with h1 h2 h3
    have : k = 0 := by omega
    subst this
    exact .inl ⟨by rw [h1, h3], rfl⟩
  · injection hv with h1 h2 h3
    refine .inr ⟨g, cap, cur, by rw [h1, h3], hb, hg, by omega, hm, hcs, ?_⟩
    rw [Nat.mul_one] at htake ⊢
    rw [List.map_take, ← htake, List.take_take, Nat.min_eq_left hk]
theorem comp_len (l : List Int) : (Lib.compact l).length ≤ l.length := by
  unfold Lib.compact Lib.compactUpTo
  rw [List.length_map]
  exact Nat.le_trans (List.length_filter_le _ _) (by simp)

theorem compactI_any (lo : Nat) (A : Option Addr) (n c : Nat) (xs : List Int) (w : World) (hown : OwnI 3 w lo A n c xs) (hn : n ≤ 1000000) (hlo : lo ≤ w.heap.size) :
    Calls Try.prog 96 #[.slice A n c] w fun e w' => ∃ n', e = .returned (.slice A n' c) ∧ OwnI 3 w' lo A n' c (Lib.compact xs) ∧ Below lo w w' := by
  have hl := hown.len
  by_cases h0 : n = 0
  · subst h0
    obtain rfl : xs = [] := List.eq_nil_of_length_eq_zero hl
    exact (Try.slices_Compact_int_empty A c w).mono fun e w' ⟨he, hw⟩ => ⟨0, he, by rw [hw]; exact hown, by rw [hw]; exact Below.refl _ _⟩
  · obtain ⟨g, rfl, hg1, hg2⟩ := hown.some_ (k := 0) (by omega)
    have hr := hown.2
    rcases hr with ⟨hv, _⟩ | ⟨g', cap, cur, hv, hb, hg, hnc, hm, hcs, htake⟩
    · injection hv with h1; cases h1
    · injection hv with h1 h2 h3
      injection h1 with h1
      injection h1 with h1
      subst h1 h3
      have hh : Go.Sort.Holds (Value.int .i64) w g 0 xs.toArray := holds_of_blockI hg (by rw [Nat.mul_one] at htake; rw [hl]; exact htake)
      have hcon := Try.slices_Compact_int g 0 c xs w hh (by omega) (by omega)
      rw [hl] at hcon
      refine hcon.mono ?_
      rintro e w' ⟨rfl, m, rfl⟩
      have hcl := comp_len xs
      have hlen : (Lib.compact xs ++ List.replicate (n - (Lib.compact xs).length) 0).length = xs.length := by rw [List.length_append, List.length_replicate]; omega
      have hgr := grownBy_sortedI (w := w) (g := g) (n := m) (os := #[]) (Lib.compact xs ++ List.replicate (n - (Lib.compact xs).length) 0).toArray
      have hown2 := ownsRow_sortedI (n := m) (os := #[]) (ss := xs) (ts := Lib.compact xs ++ List.replicate (n - (Lib.compact xs).length) 0) hlen hb hg (by rw [hl]; exact hnc) hm hcs
      rw [hl] at hown2
      have he : ∀ W : World, Sort.grow W #[] = W := fun W => by simp [Sort.grow]
      rw [he] at hgr hown2
      refine ⟨_, rfl, ?_, below_of_grown hgr hlo (fun g' h => by injection h with h; omega)⟩
      have h3 := OwnI.cutI (E := 3) (k := (Lib.compact xs).length) (show OwnI 3 _ lo (some ⟨g, 0, none⟩) n c _ from hown2) (by omega)
      rw [List.take_left'] at h3
      · exact h3
      · rfl

end Go.Proofs.Ytaliknhfcdmohaa

namespace Go.Proofs.Ytaliknhfcdmohaa
open Go.RowKit

set_option maxRecDepth 100000 in
set_option maxHeartbeats 4000000 in
theorem leapsAround_any (W H : Int) (ac up : Bool) (a b q : Int) (w : World) (hg : goodA W H = true) (hl : leaperB a b = true) (hq : 0 ≤ q ∧ q < W * H) :
    Calls Try.prog 63 #[ard W H ac up, lpr a b, .int .i64 q] w fun e w' => ∃ A' n' c', e = .returned (.slice A' n' c') ∧ OwnI 3 w' w.heap.size A' n' c' (leapsA W H ac up a b q) ∧ Below w.heap.size w w' := by
  have HG := Lib.hid hg; have HL := Lib.hid hl; have HQ := Lib.hid hq
  obtain ⟨⟨hW1, hW2b⟩, hH1, hH2⟩ := goodA_iff.1 hg
  have HMB := Lib.hid (mod_bdA (W := W) (q := q) ⟨hW1, hW2b⟩); have HDB := Lib.hid (div_bdA (W := W) (H := H) (q := q) hW1 hq)
  have HNU := Lib.hid (fun w' => numbered_any q W w' ⟨hW1, hW2b⟩ (by have := areaA hg; omega))
  obtain ⟨i0, hi, hz0, hz1, hz2⟩ := info_parts infoI
  have HI := Lib.hid hi; have HZ0 := Lib.hid hz0; have HZ1 := Lib.hid hz1; have HZ2 := Lib.hid hz2
  clear hg hl hq hi hz0 hz1 hz2 hW1 hW2b hH1 hH2
  obtain ⟨W2, hW2⟩ : ∃ W2, W2 = (w.alloc (.cells #[.int .i64 W, .int .i64 H, .bool ac, .bool up] 25)).alloc (.cells #[.int .i64 a, .int .i64 b] 36) := ⟨_, rfl⟩
  have hsz : W2.heap.size = w.heap.size + 2 := by rw [hW2]; simp
  have a0 : W2.cell? ⟨w.heap.size, 0, none⟩ = some (.int .i64 W) := by rw [hW2]; go_simp
  have a1 : W2.cell? ⟨w.heap.size, 1, none⟩ = some (.int .i64 H) := by rw [hW2]; go_simp
  have a2 : W2.cell? ⟨w.heap.size, 2, none⟩ = some (.bool ac) := by rw [hW2]; go_simp
  have a3 : W2.cell? ⟨w.heap.size, 3, none⟩ = some (.bool up) := by rw [hW2]; go_simp
  have al : w.heap.size < W2.heap.size := by omega
  have l0 : W2.cell? ⟨w.heap.size + 1, 0, none⟩ = some (.int .i64 a) := by rw [hW2]; go_simp
  have l1 : W2.cell? ⟨w.heap.size + 1, 1, none⟩ = some (.int .i64 b) := by rw [hW2]; go_simp
  have ll : w.heap.size + 1 < W2.heap.size := by omega
  have B := Lib.hid (show Below w.heap.size w W2 by rw [hW2]; repeat (first | exact Below.refl _ _ | refine below_new ?_ _))
  go_enter Try.func63, Try.ntmps63
  go_wp2_with fail
  rw [← hW2]
  clear hW2
  refine (stepsOf_any a b _ HL.out).mono ?_
  rintro e ws ⟨A1, n1, c1, rfl, hst, hb⟩
  replace a0 := cell_keep a0 al hb
  replace a1 := cell_keep a1 al hb
  replace a2 := cell_keep a2 al hb
  replace a3 := cell_keep a3 al hb
  replace al := lt_keep al hb
  replace l0 := cell_keep l0 ll hb
  replace l1 := cell_keep l1 ll hb
  replace ll := lt_keep ll hb
  replace B := Lib.hid (below_next B.out hb)
  have ST := Lib.hid hst; have SL := Lib.hid hst.len
  have n8 : n1 ≤ 8 := by have := stepsL_len HL.out; have := hst.len; omega
  clear hst hb l0 l1 ll hsz
  go_wp2
  go_loopw [7, 15] (fun v i wr => ∃ (k n' c' : Nat) (A' : Option Addr), k ≤ n1 ∧ i = .int .i64 k ∧ v = .slice A' n' c' ∧ OwnI 3 wr ws.heap.size A' n' c' (endsA W H ac up q ((stepsL a b).take k)) ∧ Below ws.heap.size ws wr) (fun _ i _ => n1 - (intOf i).toNat)
  case atStart => exact ⟨0, 0, 0, none, by omega, rfl, rfl, OwnI.none_ _ _ _, Below.refl _ _⟩
  case round =>
    obtain ⟨k, n', c', A', hk, rfl, rfl, hown, hbw⟩ := hrel
    by_cases hlt : k < n1
    · obtain ⟨⟨dx, dy⟩, hx⟩ : ∃ p, (stepsL a b)[k]? = some p := ⟨_, List.getElem?_eq_getElem (show k < (stepsL a b).length by have := SL.out; omega)⟩
      obtain ⟨g1, rfl, _, hg1⟩ := ST.out.some_ hlt
      obtain ⟨x0, x1⟩ := pair_at ST.out hx
      have hbd := stepsL_bd HL.out (List.mem_of_getElem? hx)
      simp only at x0 x1 hbd
      replace x0 := cell_keep x0 hg1 hbw; replace x1 := cell_keep x1 hg1 hbw
      have HAF := Lib.hid (fun w' => after_any W H ac up (q % W) (q / W) dx dy w' HG.out (by have := HMB.out; omega) (by have := HDB.out; have := goodA_iff.1 HG.out; omega) (by omega) (by omega))
      have HYES := Lib.hid (endsA_yes (W := W) (H := H) (q := q) (ac := ac) (up := up) hx); have HNO := Lib.hid (endsA_no (W := W) (H := H) (q := q) (ac := ac) (up := up) hx)
      have HOI := Lib.hid (okA_iff (W := W) (H := H) (q := q) (ac := ac) (up := up) (p := (dx, dy)))
      have HSN := Lib.hid (stepA_no (W := W) (H := H) (q := q) (x := dx) (y := dy) (ac := ac) (up := up)); have HSY := Lib.hid (stepA_yes (W := W) (H := H) (q := q) (x := dx) (y := dy) (ac := ac) (up := up))
      have hn8 : n' ≤ 8 := by have h1 := hown.len; have h2 := endsA_len (W := W) (H := H) (q := q) (ac := ac) (up := up) (l := (stepsL a b).take k); rw [List.length_take] at h2; omega
      simp only at HYES HOI
      obtain ⟨S, hS⟩ : ∃ S, stepA W H ac up q dx dy = S := ⟨_, rfl⟩
      obtain ⟨P, hP⟩ : ∃ P, colA ac W (q % W + dx) = P := ⟨_, rfl⟩
      obtain ⟨R, hR⟩ : ∃ R, colA up H (q / W + dy) = R := ⟨_, rfl⟩
      rw [hS] at HYES HOI HSN HSY
      rw [hP, hR] at HAF HSN HSY
      have HO := Lib.hid hown; have HB := Lib.hid hbw
      have b0 := cell_keep a0 al hbw; have b1 := cell_keep a1 al hbw; have b2 := cell_keep a2 al hbw; have b3 := cell_keep a3 al hbw
      have bl := lt_keep al hbw
      have hsw := hbw.size
      have HBS := Lib.hid (show w.heap.size < ws.heap.size from al)
      clear hx hown hbw hbd hS hP hR
      go_upto_region 5 with fail
      obtain ⟨W3, hW3⟩ : ∃ W3, W3 = wr.alloc (.cells #[.int .i64 dx, .int .i64 dy] 59) := ⟨_, rfl⟩
      obtain ⟨gs, hgs⟩ : ∃ gs, gs = wr.heap.size := ⟨_, rfl⟩
      have SB := Lib.hid (show SpotBox W3 gs dx dy by rw [hW3, hgs]; exact heap_alloc_new _ _)
      have hb : Below wr.heap.size wr W3 := by rw [hW3]; exact below_new (Below.refl _ _) _
      have HGS := Lib.hid (show ws.heap.size ≤ gs by rw [hgs]; exact hsw)
      have s0 := SB.out.c0; have s1 := SB.out.c1; have sl := SB.out.lt
      replace b0 := cell_keep b0 bl hb; replace b1 := cell_keep b1 bl hb; replace b2 := cell_keep b2 bl hb; replace b3 := cell_keep b3 bl hb; replace bl := lt_keep bl hb
      replace HO := Lib.hid (HO.out.keep hb); replace HB := Lib.hid (HB.out.trans (hb.mono HB.out.size)); replace hsw := Nat.le_trans hsw hb.size
      rw [← hW3, ← hgs]
      clear hW3 hgs hb x0 x1
      cases hi : inA W H P R with
      | false =>
        have HE := Lib.hid (HNO.out (by rw [Bool.eq_false_iff]; intro h; have := HOI.out.1 h; have := HSN.out hi; omega))
        refine wp_region_held_drew (S := fun w' => w'.cell? ⟨w.heap.size, 0, none⟩ = some (.int .i64 W) ∧ w'.cell? ⟨w.heap.size, 1, none⟩ = some (.int .i64 H) ∧ w'.cell? ⟨w.heap.size, 2, none⟩ = some (.bool ac) ∧ w'.cell? ⟨w.heap.size, 3, none⟩ = some (.bool up) ∧ w'.cell? ⟨gs, 0, none⟩ = some (.int .i64 dx) ∧ w'.cell? ⟨gs, 1, none⟩ = some (.int .i64 dy)) (by kernel_rfl) ?_ (fun hHeld => ?_)
        · (try dsimp only)
          exact ⟨b0, b1, b2, b3, s0, s1⟩
        refine wpAnyH_take (i := 0) (oi := ⟨_, _, _, _, _, _⟩) (v := ?_) rfl (by kernel_rfl) (by kernel_rfl) (by kernel_rfl) (fun _ _ _ h => h) (Or.inl ⟨by rfl, ?_⟩) (by assumption) ?_
        rotate_left
        · intro w hSw
          (try dsimp only at hSw)
          go_simp
          (try with_reducible rfl)
        (try simp only [Act.put, List.setIfInBounds_toArray, List.set_cons_zero, List.set_cons_succ])
        refine wpAnyH_take (i := 1) (oi := ⟨_, _, _, _, _, _⟩) (v := ?_) rfl (by kernel_rfl) (by kernel_rfl) (by kernel_rfl) (fun _ _ _ h => h) (Or.inl ⟨by rfl, ?_⟩) (by assumption) ?_
        rotate_left
        · intro w hSw
          (try dsimp only at hSw)
          go_simp
          (try with_reducible rfl)
        (try simp only [Act.put, List.setIfInBounds_toArray, List.set_cons_zero, List.set_cons_succ])
        refine wpAnyH_take (i := 2) (oi := ⟨_, _, _, _, _, _⟩) (v := ?_) rfl (by kernel_rfl) (by kernel_rfl) (by kernel_rfl) (fun _ _ _ h => h) (Or.inl ⟨by rfl, ?_⟩) (by assumption) ?_
        rotate_left
        · intro w hSw
          (try dsimp only at hSw)
          go_simp
          (try with_reducible rfl)
        (try simp only [Act.put, List.setIfInBounds_toArray, List.set_cons_zero, List.set_cons_succ])
        refine wpAnyH_take (i := 5) (oi := ⟨_, _, _, _, _, _⟩) (v := ?_) rfl (by kernel_rfl) (by kernel_rfl) (by kernel_rfl) (fun _ _ _ h => h) (Or.inl ⟨by rfl, ?_⟩) (by assumption) ?_
        rotate_left
        · intro w hSw
          (try dsimp only at hSw)
          go_simp
          (try with_reducible rfl)
        (try simp only [Act.put, List.setIfInBounds_toArray, List.set_cons_zero, List.set_cons_succ])
        refine wpAnyH_take (i := 3) (oi := ⟨_, _, _, _, _, _⟩) (v := ?_) rfl (by kernel_rfl) (by kernel_rfl) (by kernel_rfl) (fun _ _ _ h => h) (Or.inl ⟨by rfl, ?_⟩) (by assumption) ?_
        rotate_left
        · intro w hSw
          (try dsimp only at hSw)
          go_simp
          (try with_reducible rfl)
        (try simp only [Act.put, List.setIfInBounds_toArray, List.set_cons_zero, List.set_cons_succ])
        refine wpAnyH_ready (rs := [4, 10]) (by kernel_rfl) (by simp) ?_
        refine AllReadyH.cons (o := ⟨_, _, _, _, _, _⟩) rfl (fun K hK => ?_) (AllReadyH.cons (o := ⟨_, _, _, _, _, _⟩) rfl (fun K hK => ?_) AllReadyH.nil)
        · go_simp
          (go_at_call 58; refine (HNU.out _).mono ?_; rintro e wx ⟨rfl, hb⟩; (repeat (first | replace hb := below_undrew hb | replace hb := below_undrewN hb)); replace b0 := cell_keep b0 bl hb; replace b1 := cell_keep b1 bl hb; replace b2 := cell_keep b2 bl hb; replace b3 := cell_keep b3 bl hb; replace bl := lt_keep bl hb; replace HO := Lib.hid (HO.out.keep hb); replace HB := Lib.hid (HB.out.trans (hb.mono HB.out.size)); replace hsw := Nat.le_trans hsw hb.size; replace SB := Lib.hid (SB.out.keep hb); replace s0 := cell_keep s0 sl hb; replace s1 := cell_keep s1 sl hb; replace sl := lt_keep sl hb; clear hb)
          (try go_wp2_with fail)
          refine hK.out _ _ ?_ (fun hHeld => ?_)
          · (try dsimp only)
            exact ⟨b0, b1, b2, b3, s0, s1⟩
          clear hK K
          (try simp only [Act.put, List.setIfInBounds_toArray, List.set_cons_zero, List.set_cons_succ])
          refine wpAnyH_ready (rs := [6, 10]) (by kernel_rfl) (by simp) ?_
          refine AllReadyH.cons (o := ⟨_, _, _, _, _, _⟩) rfl (fun K hK => ?_) (AllReadyH.cons (o := ⟨_, _, _, _, _, _⟩) rfl (fun K hK => ?_) AllReadyH.nil)
          · go_simp
            (go_at_call 57; refine (HAF.out _).mono ?_; rw [hi]; rintro e wy ⟨rfl, hb⟩; (repeat (first | replace hb := below_undrew hb | replace hb := below_undrewN hb)); replace b0 := cell_keep b0 bl hb; replace b1 := cell_keep b1 bl hb; replace b2 := cell_keep b2 bl hb; replace b3 := cell_keep b3 bl hb; replace bl := lt_keep bl hb; replace HO := Lib.hid (HO.out.keep hb); replace HB := Lib.hid (HB.out.trans (hb.mono HB.out.size)); replace hsw := Nat.le_trans hsw hb.size; replace SB := Lib.hid (SB.out.keep hb); replace s0 := cell_keep s0 sl hb; replace s1 := cell_keep s1 sl hb; replace sl := lt_keep sl hb; clear hb)
            (try go_wp2_with fail)
            refine hK.out _ _ ?_ (fun hHeld => ?_)
            · (try dsimp only)
              exact ⟨b0, b1, b2, b3, s0, s1⟩
            clear hK K
            (try simp only [Act.put, List.setIfInBounds_toArray, List.set_cons_zero, List.set_cons_succ])
            refine wpAnyH_take (i := 7) (oi := ⟨_, _, _, _, _, _⟩) (v := ?_) rfl (by kernel_rfl) (by kernel_rfl) (by kernel_rfl) (fun _ _ _ h => h) (Or.inl ⟨by rfl, ?_⟩) (by assumption) ?_
            rotate_left
            · intro w hSw
              (try dsimp only at hSw)
              go_simp
              (try with_reducible rfl)
            (try simp only [Act.put, List.setIfInBounds_toArray, List.set_cons_zero, List.set_cons_succ])
            refine wpAnyH_take (i := 8) (oi := ⟨_, _, _, _, _, _⟩) (v := ?_) rfl (by kernel_rfl) (by kernel_rfl) (by kernel_rfl) (fun _ _ _ h => h) (Or.inl ⟨by rfl, ?_⟩) (by assumption) ?_
            rotate_left
            · intro w hSw
              (try dsimp only at hSw)
              go_simp
              (try with_reducible rfl)
            (try simp only [Act.put, List.setIfInBounds_toArray, List.set_cons_zero, List.set_cons_succ])
            refine wpAnyH_take (i := 9) (oi := ⟨_, _, _, _, _, _⟩) (v := ?_) rfl (by kernel_rfl) (by kernel_rfl) (by kernel_rfl) (fun _ _ _ h => h) (Or.inl ⟨by rfl, ?_⟩) (by assumption) ?_
            rotate_left
            · intro w hSw
              (try dsimp only at hSw)
              go_simp
              (try with_reducible rfl)
            (try simp only [Act.put, List.setIfInBounds_toArray, List.set_cons_zero, List.set_cons_succ])
            refine wpAnyH_ready (rs := [10]) (by kernel_rfl) (by simp) ?_
            refine AllReadyH.cons (o := ⟨_, _, _, _, _, _⟩) rfl (fun K hK => ?_) AllReadyH.nil
            go_simp
            obtain ⟨wz, hWn⟩ : ∃ W5, W5 = wy.alloc (.cells #[.int .i64 0, .int .i64 0] 59) := ⟨_, rfl⟩
            have hb : Below wy.heap.size wy wz := by rw [hWn]; exact below_new (Below.refl _ _) _
            obtain ⟨gt, hgp⟩ : ∃ gp, gp = wy.heap.size := ⟨_, rfl⟩
            have HGT := Lib.hid (show gs < gt by rw [hgp]; exact sl)
            have TB := Lib.hid (show SpotBox wz gt 0 0 by rw [hWn, hgp]; exact heap_alloc_new _ _)
            rw [← hWn]
            (try rw [← hgp])
            clear hWn hgp
            replace b0 := cell_keep b0 bl hb
            replace b1 := cell_keep b1 bl hb
            replace b2 := cell_keep b2 bl hb
            replace b3 := cell_keep b3 bl hb
            replace bl := lt_keep bl hb
            replace HO := Lib.hid (HO.out.keep hb)
            replace HB := Lib.hid (HB.out.trans (hb.mono HB.out.size))
            replace hsw := Nat.le_trans hsw hb.size
            replace SB := Lib.hid (SB.out.keep hb)
            replace s0 := cell_keep s0 sl hb
            replace s1 := cell_keep s1 sl hb
            replace sl := lt_keep sl hb
            clear hb
            refine hK.out _ _ ?_ (fun hHeld => ?_)
            · (try dsimp only)
              exact ⟨b0, b1, b2, b3, s0, s1⟩
            clear hK K
            (try simp only [Act.put, List.setIfInBounds_toArray, List.set_cons_zero, List.set_cons_succ])
            refine wpAnyH_ready (rs := [11]) (by kernel_rfl) (by simp) ?_
            refine AllReadyH.cons (o := ⟨_, _, _, _, _, _⟩) rfl (fun K hK => ?_) AllReadyH.nil
            have z0 := TB.out.c0; have z1 := TB.out.c1
            have f0 : wz.frozen? ⟨gt, 0, none⟩ = false := frozen_of_row wz _ 0 _ _ TB.out
            have f1 : wz.frozen? ⟨gt, 1, none⟩ = false := frozen_of_row wz _ 1 _ _ TB.out
            go_simp
            obtain ⟨W6, hWn⟩ : ∃ W6, W6 = (wz.setCell ⟨gt, 0, none⟩ (.int .i64 P)).setCell ⟨gt, 1, none⟩ (.int .i64 R) := ⟨_, rfl⟩
            have hgr : wz.grownBy W6 (some gt) := by rw [hWn]; exact grown_next (grownSet _ ⟨gt, 0, none⟩ _) (grownSet _ ⟨gt, 1, none⟩ _)
            have hgne := HGT.out; have hgse := HGS.out; have hbse := HBS.out
            replace HO := Lib.hid (HO.out.other hgr (fun a9 ha9 he => TB.out.apart HO.out a9 ha9 (by injection he)))
            replace TB := Lib.hid (show SpotBox W6 gt P R by rw [hWn]; exact TB.out.set _ _)
            replace HB := Lib.hid (HB.out.grown hgr HB.out.size (fun g9 h9 => by injection h9 with h9; omega))
            replace b0 := hgr.cell b0 (by simp; omega)
            replace b1 := hgr.cell b1 (by simp; omega)
            replace b2 := hgr.cell b2 (by simp; omega)
            replace b3 := hgr.cell b3 (by simp; omega)
            replace s0 := hgr.cell s0 (by simp; omega)
            replace s1 := hgr.cell s1 (by simp; omega)
            replace bl := Nat.lt_of_lt_of_le bl hgr.size
            replace hsw := Nat.le_trans hsw hgr.size
            rw [← hWn]
            clear hWn hgr z0 z1 f0 f1 hgne hgse hbse
            refine hK.out _ _ ?_ (fun hHeld => ?_)
            · (try dsimp only)
              exact ⟨b0, b1, b2, b3, s0, s1⟩
            clear hK K
            (try simp only [Act.put, List.setIfInBounds_toArray, List.set_cons_zero, List.set_cons_succ])
            refine wpAnyH_take (i := 12) (oi := ⟨_, _, _, _, _, _⟩) (v := ?_) rfl (by kernel_rfl) (by kernel_rfl) (by kernel_rfl) (fun _ _ _ h => h) (Or.inl ⟨by rfl, ?_⟩) (by assumption) ?_
            rotate_left
            · intro w hSw
              (try dsimp only at hSw)
              go_simp
              (try with_reducible rfl)
            (try simp only [Act.put, List.setIfInBounds_toArray, List.set_cons_zero, List.set_cons_succ])
            refine wpAnyH_done (by kernel_rfl) ?_ _
            have t0 := TB.out.c0; have t1 := TB.out.c1
            have tl := TB.out.lt
            clear hHeld s0 s1
            clear t0 t1 tl b0 b1 b2 b3 bl
            go_wp2
            go_roundw
            case rel => exact ⟨k + 1, n', c', A', by omega, by go_num, rfl, by rw [HE.out]; exact HO.out, HB.out⟩
            case measure => simp [intOf]; omega
          · go_simp
            obtain ⟨wz, hWn⟩ : ∃ W5, W5 = wx.alloc (.cells #[.int .i64 0, .int .i64 0] 59) := ⟨_, rfl⟩
            have hb : Below wx.heap.size wx wz := by rw [hWn]; exact below_new (Below.refl _ _) _
            obtain ⟨gt, hgp⟩ : ∃ gp, gp = wx.heap.size := ⟨_, rfl⟩
            have HGT := Lib.hid (show gs < gt by rw [hgp]; exact sl)
            have TB := Lib.hid (show SpotBox wz gt 0 0 by rw [hWn, hgp]; exact heap_alloc_new _ _)
            rw [← hWn]
            (try rw [← hgp])
            clear hWn hgp
            replace b0 := cell_keep b0 bl hb
            replace b1 := cell_keep b1 bl hb
            replace b2 := cell_keep b2 bl hb
            replace b3 := cell_keep b3 bl hb
            replace bl := lt_keep bl hb
            replace HO := Lib.hid (HO.out.keep hb)
            replace HB := Lib.hid (HB.out.trans (hb.mono HB.out.size))
            replace hsw := Nat.le_trans hsw hb.size
            replace SB := Lib.hid (SB.out.keep hb)
            replace s0 := cell_keep s0 sl hb
            replace s1 := cell_keep s1 sl hb
            replace sl := lt_keep sl hb
            clear hb
            refine hK.out _ _ ?_ (fun hHeld => ?_)
            · (try dsimp only)
              exact ⟨b0, b1, b2, b3, s0, s1⟩
            clear hK K
            (try simp only [Act.put, List.setIfInBounds_toArray, List.set_cons_zero, List.set_cons_succ])
            refine wpAnyH_ready (rs := [6]) (by kernel_rfl) (by simp) ?_
            refine AllReadyH.cons (o := ⟨_, _, _, _, _, _⟩) rfl (fun K hK => ?_) AllReadyH.nil
            go_simp
            (go_at_call 57; refine (HAF.out _).mono ?_; rw [hi]; rintro e wy ⟨rfl, hb⟩; (repeat (first | replace hb := below_undrew hb | replace hb := below_undrewN hb)); replace b0 := cell_keep b0 bl hb; replace b1 := cell_keep b1 bl hb; replace b2 := cell_keep b2 bl hb; replace b3 := cell_keep b3 bl hb; replace bl := lt_keep bl hb; replace HO := Lib.hid (HO.out.keep hb); replace HB := Lib.hid (HB.out.trans (hb.mono HB.out.size)); replace hsw := Nat.le_trans hsw hb.size; replace SB := Lib.hid (SB.out.keep hb); replace s0 := cell_keep s0 sl hb; replace s1 := cell_keep s1 sl hb; replace sl := lt_keep sl hb; replace TB := Lib.hid (TB.out.keep hb); clear hb)
            (try go_wp2_with fail)
            refine hK.out _ _ ?_ (fun hHeld => ?_)
            · (try dsimp only)
              exact ⟨b0, b1, b2, b3, s0, s1⟩
            clear hK K
            (try simp only [Act.put, List.setIfInBounds_toArray, List.set_cons_zero, List.set_cons_succ])
            refine wpAnyH_take (i := 7) (oi := ⟨_, _, _, _, _, _⟩) (v := ?_) rfl (by kernel_rfl) (by kernel_rfl) (by kernel_rfl) (fun _ _ _ h => h) (Or.inl ⟨by rfl, ?_⟩) (by assumption) ?_
            rotate_left
            · intro w hSw
              (try dsimp only at hSw)
              go_simp
              (try with_reducible rfl)
            (try simp only [Act.put, List.setIfInBounds_toArray, List.set_cons_zero, List.set_cons_succ])
            refine wpAnyH_take (i := 8) (oi := ⟨_, _, _, _, _, _⟩) (v := ?_) rfl (by kernel_rfl) (by kernel_rfl) (by kernel_rfl) (fun _ _ _ h => h) (Or.inl ⟨by rfl, ?_⟩) (by assumption) ?_
            rotate_left
            · intro w hSw
              (try dsimp only at hSw)
              go_simp
              (try with_reducible rfl)
            (try simp only [Act.put, List.setIfInBounds_toArray, List.set_cons_zero, List.set_cons_succ])
            refine wpAnyH_take (i := 9) (oi := ⟨_, _, _, _, _, _⟩) (v := ?_) rfl (by kernel_rfl) (by kernel_rfl) (by kernel_rfl) (fun _ _ _ h => h) (Or.inl ⟨by rfl, ?_⟩) (by assumption) ?_
            rotate_left
            · intro w hSw
              (try dsimp only at hSw)
              go_simp
              (try with_reducible rfl)
            (try simp only [Act.put, List.setIfInBounds_toArray, List.set_cons_zero, List.set_cons_succ])
            refine wpAnyH_ready (rs := [11]) (by kernel_rfl) (by simp) ?_
            refine AllReadyH.cons (o := ⟨_, _, _, _, _, _⟩) rfl (fun K hK => ?_) AllReadyH.nil
            have z0 := TB.out.c0; have z1 := TB.out.c1
            have f0 : wy.frozen? ⟨gt, 0, none⟩ = false := frozen_of_row wy _ 0 _ _ TB.out
            have f1 : wy.frozen? ⟨gt, 1, none⟩ = false := frozen_of_row wy _ 1 _ _ TB.out
            go_simp
            obtain ⟨W6, hWn⟩ : ∃ W6, W6 = (wy.setCell ⟨gt, 0, none⟩ (.int .i64 P)).setCell ⟨gt, 1, none⟩ (.int .i64 R) := ⟨_, rfl⟩
            have hgr : wy.grownBy W6 (some gt) := by rw [hWn]; exact grown_next (grownSet _ ⟨gt, 0, none⟩ _) (grownSet _ ⟨gt, 1, none⟩ _)
            have hgne := HGT.out; have hgse := HGS.out; have hbse := HBS.out
            replace HO := Lib.hid (HO.out.other hgr (fun a9 ha9 he => TB.out.apart HO.out a9 ha9 (by injection he)))
            replace TB := Lib.hid (show SpotBox W6 gt P R by rw [hWn]; exact TB.out.set _ _)
            replace HB := Lib.hid (HB.out.grown hgr HB.out.size (fun g9 h9 => by injection h9 with h9; omega))
            replace b0 := hgr.cell b0 (by simp; omega)
            replace b1 := hgr.cell b1 (by simp; omega)
            replace b2 := hgr.cell b2 (by simp; omega)
            replace b3 := hgr.cell b3 (by simp; omega)
            replace s0 := hgr.cell s0 (by simp; omega)
            replace s1 := hgr.cell s1 (by simp; omega)
            replace bl := Nat.lt_of_lt_of_le bl hgr.size
            replace hsw := Nat.le_trans hsw hgr.size
            rw [← hWn]
            clear hWn hgr z0 z1 f0 f1 hgne hgse hbse
            refine hK.out _ _ ?_ (fun hHeld => ?_)
            · (try dsimp only)
              exact ⟨b0, b1, b2, b3, s0, s1⟩
            clear hK K
            (try simp only [Act.put, List.setIfInBounds_toArray, List.set_cons_zero, List.set_cons_succ])
            refine wpAnyH_take (i := 12) (oi := ⟨_, _, _, _, _, _⟩) (v := ?_) rfl (by kernel_rfl) (by kernel_rfl) (by kernel_rfl) (fun _ _ _ h => h) (Or.inl ⟨by rfl, ?_⟩) (by assumption) ?_
            rotate_left
            · intro w hSw
              (try dsimp only at hSw)
              go_simp
              (try with_reducible rfl)
            (try simp only [Act.put, List.setIfInBounds_toArray, List.set_cons_zero, List.set_cons_succ])
            refine wpAnyH_done (by kernel_rfl) ?_ _
            have t0 := TB.out.c0; have t1 := TB.out.c1
            have tl := TB.out.lt
            clear hHeld s0 s1
            clear t0 t1 tl b0 b1 b2 b3 bl
            go_wp2
            go_roundw
            case rel => exact ⟨k + 1, n', c', A', by omega, by go_num, rfl, by rw [HE.out]; exact HO.out, HB.out⟩
            case measure => simp [intOf]; omega
        · go_simp
          obtain ⟨wz, hWn⟩ : ∃ W5, W5 = W3.alloc (.cells #[.int .i64 0, .int .i64 0] 59) := ⟨_, rfl⟩
          have hb : Below W3.heap.size W3 wz := by rw [hWn]; exact below_new (Below.refl _ _) _
          obtain ⟨gt, hgp⟩ : ∃ gp, gp = W3.heap.size := ⟨_, rfl⟩
          have HGT := Lib.hid (show gs < gt by rw [hgp]; exact sl)
          have TB := Lib.hid (show SpotBox wz gt 0 0 by rw [hWn, hgp]; exact heap_alloc_new _ _)
          rw [← hWn]
          (try rw [← hgp])
          clear hWn hgp
          replace b0 := cell_keep b0 bl hb
          replace b1 := cell_keep b1 bl hb
          replace b2 := cell_keep b2 bl hb
          replace b3 := cell_keep b3 bl hb
          replace bl := lt_keep bl hb
          replace HO := Lib.hid (HO.out.keep hb)
          replace HB := Lib.hid (HB.out.trans (hb.mono HB.out.size))
          replace hsw := Nat.le_trans hsw hb.size
          replace SB := Lib.hid (SB.out.keep hb)
          replace s0 := cell_keep s0 sl hb
          replace s1 := cell_keep s1 sl hb
          replace sl := lt_keep sl hb
          clear hb
          refine hK.out _ _ ?_ (fun hHeld => ?_)
          · (try dsimp only)
            exact ⟨b0, b1, b2, b3, s0, s1⟩
          clear hK K
          (try simp only [Act.put, List.setIfInBounds_toArray, List.set_cons_zero, List.set_cons_succ])
          refine wpAnyH_ready (rs := [4]) (by kernel_rfl) (by simp) ?_
          refine AllReadyH.cons (o := ⟨_, _, _, _, _, _⟩) rfl (fun K hK => ?_) AllReadyH.nil
          go_simp
          (go_at_call 58; refine (HNU.out _).mono ?_; rintro e wx ⟨rfl, hb⟩; (repeat (first | replace hb := below_undrew hb | replace hb := below_undrewN hb)); replace b0 := cell_keep b0 bl hb; replace b1 := cell_keep b1 bl hb; replace b2 := cell_keep b2 bl hb; replace b3 := cell_keep b3 bl hb; replace bl := lt_keep bl hb; replace HO := Lib.hid (HO.out.keep hb); replace HB := Lib.hid (HB.out.trans (hb.mono HB.out.size)); replace hsw := Nat.le_trans hsw hb.size; replace SB := Lib.hid (SB.out.keep hb); replace s0 := cell_keep s0 sl hb; replace s1 := cell_keep s1 sl hb; replace sl := lt_keep sl hb; replace TB := Lib.hid (TB.out.keep hb); clear hb)
          (try go_wp2_with fail)
          refine hK.out _ _ ?_ (fun hHeld => ?_)
          · (try dsimp only)
            exact ⟨b0, b1, b2, b3, s0, s1⟩
          clear hK K
          (try simp only [Act.put, List.setIfInBounds_toArray, List.set_cons_zero, List.set_cons_succ])
          refine wpAnyH_ready (rs := [6]) (by kernel_rfl) (by simp) ?_
          refine AllReadyH.cons (o := ⟨_, _, _, _, _, _⟩) rfl (fun K hK => ?_) AllReadyH.nil
          go_simp
          (go_at_call 57; refine (HAF.out _).mono ?_; rw [hi]; rintro e wy ⟨rfl, hb⟩; (repeat (first | replace hb := below_undrew hb | replace hb := below_undrewN hb)); replace b0 := cell_keep b0 bl hb; replace b1 := cell_keep b1 bl hb; replace b2 := cell_keep b2 bl hb; replace b3 := cell_keep b3 bl hb; replace bl := lt_keep bl hb; replace HO := Lib.hid (HO.out.keep hb); replace HB := Lib.hid (HB.out.trans (hb.mono HB.out.size)); replace hsw := Nat.le_trans hsw hb.size; replace SB := Lib.hid (SB.out.keep hb); replace s0 := cell_keep s0 sl hb; replace s1 := cell_keep s1 sl hb; replace sl := lt_keep sl hb; replace TB := Lib.hid (TB.out.keep hb); clear hb)
          (try go_wp2_with fail)
          refine hK.out _ _ ?_ (fun hHeld => ?_)
          · (try dsimp only)
            exact ⟨b0, b1, b2, b3, s0, s1⟩
          clear hK K
          (try simp only [Act.put, List.setIfInBounds_toArray, List.set_cons_zero, List.set_cons_succ])
          refine wpAnyH_take (i := 7) (oi := ⟨_, _, _, _, _, _⟩) (v := ?_) rfl (by kernel_rfl) (by kernel_rfl) (by kernel_rfl) (fun _ _ _ h => h) (Or.inl ⟨by rfl, ?_⟩) (by assumption) ?_
          rotate_left
          · intro w hSw
            (try dsimp only at hSw)
            go_simp
            (try with_reducible rfl)
          (try simp only [Act.put, List.setIfInBounds_toArray, List.set_cons_zero, List.set_cons_succ])
          refine wpAnyH_take (i := 8) (oi := ⟨_, _, _, _, _, _⟩) (v := ?_) rfl (by kernel_rfl) (by kernel_rfl) (by kernel_rfl) (fun _ _ _ h => h) (Or.inl ⟨by rfl, ?_⟩) (by assumption) ?_
          rotate_left
          · intro w hSw
            (try dsimp only at hSw)
            go_simp
            (try with_reducible rfl)
          (try simp only [Act.put, List.setIfInBounds_toArray, List.set_cons_zero, List.set_cons_succ])
          refine wpAnyH_take (i := 9) (oi := ⟨_, _, _, _, _, _⟩) (v := ?_) rfl (by kernel_rfl) (by kernel_rfl) (by kernel_rfl) (fun _ _ _ h => h) (Or.inl ⟨by rfl, ?_⟩) (by assumption) ?_
          rotate_left
          · intro w hSw
            (try dsimp only at hSw)
            go_simp
            (try with_reducible rfl)
          (try simp only [Act.put, List.setIfInBounds_toArray, List.set_cons_zero, List.set_cons_succ])
          refine wpAnyH_ready (rs := [11]) (by kernel_rfl) (by simp) ?_
          refine AllReadyH.cons (o := ⟨_, _, _, _, _, _⟩) rfl (fun K hK => ?_) AllReadyH.nil
          have z0 := TB.out.c0; have z1 := TB.out.c1
          have f0 : wy.frozen? ⟨gt, 0, none⟩ = false := frozen_of_row wy _ 0 _ _ TB.out
          have f1 : wy.frozen? ⟨gt, 1, none⟩ = false := frozen_of_row wy _ 1 _ _ TB.out
          go_simp
          obtain ⟨W6, hWn⟩ : ∃ W6, W6 = (wy.setCell ⟨gt, 0, none⟩ (.int .i64 P)).setCell ⟨gt, 1, none⟩ (.int .i64 R) := ⟨_, rfl⟩
          have hgr : wy.grownBy W6 (some gt) := by rw [hWn]; exact grown_next (grownSet _ ⟨gt, 0, none⟩ _) (grownSet _ ⟨gt, 1, none⟩ _)
          have hgne := HGT.out; have hgse := HGS.out; have hbse := HBS.out
          replace HO := Lib.hid (HO.out.other hgr (fun a9 ha9 he => TB.out.apart HO.out a9 ha9 (by injection he)))
          replace TB := Lib.hid (show SpotBox W6 gt P R by rw [hWn]; exact TB.out.set _ _)
          replace HB := Lib.hid (HB.out.grown hgr HB.out.size (fun g9 h9 => by injection h9 with h9; omega))
          replace b0 := hgr.cell b0 (by simp; omega)
          replace b1 := hgr.cell b1 (by simp; omega)
          replace b2 := hgr.cell b2 (by simp; omega)
          replace b3 := hgr.cell b3 (by simp; omega)
          replace s0 := hgr.cell s0 (by simp; omega)
          replace s1 := hgr.cell s1 (by simp; omega)
          replace bl := Nat.lt_of_lt_of_le bl hgr.size
          replace hsw := Nat.le_trans hsw hgr.size
          rw [← hWn]
          clear hWn hgr z0 z1 f0 f1 hgne hgse hbse
          refine hK.out _ _ ?_ (fun hHeld => ?_)
          · (try dsimp only)
            exact ⟨b0, b1, b2, b3, s0, s1⟩
          clear hK K
          (try simp only [Act.put, List.setIfInBounds_toArray, List.set_cons_zero, List.set_cons_succ])
          refine wpAnyH_take (i := 12) (oi := ⟨_, _, _, _, _, _⟩) (v := ?_) rfl (by kernel_rfl) (by kernel_rfl) (by kernel_rfl) (fun _ _ _ h => h) (Or.inl ⟨by rfl, ?_⟩) (by assumption) ?_
          rotate_left
          · intro w hSw
            (try dsimp only at hSw)
            go_simp
            (try with_reducible rfl)
          (try simp only [Act.put, List.setIfInBounds_toArray, List.set_cons_zero, List.set_cons_succ])
          refine wpAnyH_done (by kernel_rfl) ?_ _
          have t0 := TB.out.c0; have t1 := TB.out.c1
          have tl := TB.out.lt
          clear hHeld s0 s1
          clear t0 t1 tl b0 b1 b2 b3 bl
          go_wp2
          go_roundw
          case rel => exact ⟨k + 1, n', c', A', by omega, by go_num, rfl, by rw [HE.out]; exact HO.out, HB.out⟩
          case measure => simp [intOf]; omega
      | true =>
        have HSQ := Lib.hid (HSY.out hi).symm
        have HPB := Lib.hid (show -5000 ≤ P ∧ P ≤ 5000 by have := inA_iff.1 hi; have := goodA_iff.1 HG.out; omega)
        have HRW := Lib.hid (show -5000 ≤ R * W ∧ R * W ≤ 5000 by have h1 := inA_iff.1 hi; have h2 := goodA_iff.1 HG.out; have := mul12 (x := R) (y := W) (by omega) (by omega); omega)
        have HS0 := Lib.hid (show 0 ≤ S by have := numA hi; have := HSQ.out; omega)
        by_cases hsq : S = q
        · have HE := Lib.hid (HNO.out (by rw [Bool.eq_false_iff]; intro h; have := HOI.out.1 h; omega))
          subst hsq
          refine wp_region_held_drew (S := fun w' => w'.cell? ⟨w.heap.size, 0, none⟩ = some (.int .i64 W) ∧ w'.cell? ⟨w.heap.size, 1, none⟩ = some (.int .i64 H) ∧ w'.cell? ⟨w.heap.size, 2, none⟩ = some (.bool ac) ∧ w'.cell? ⟨w.heap.size, 3, none⟩ = some (.bool up) ∧ w'.cell? ⟨gs, 0, none⟩ = some (.int .i64 dx) ∧ w'.cell? ⟨gs, 1, none⟩ = some (.int .i64 dy)) (by kernel_rfl) ?_ (fun hHeld => ?_)
          · (try dsimp only)
            exact ⟨b0, b1, b2, b3, s0, s1⟩
          refine wpAnyH_take (i := 0) (oi := ⟨_, _, _, _, _, _⟩) (v := ?_) rfl (by kernel_rfl) (by kernel_rfl) (by kernel_rfl) (fun _ _ _ h => h) (Or.inl ⟨by rfl, ?_⟩) (by assumption) ?_
          rotate_left
          · intro w hSw
            (try dsimp only at hSw)
            go_simp
            (try with_reducible rfl)
          (try simp only [Act.put, List.setIfInBounds_toArray, List.set_cons_zero, List.set_cons_succ])
          refine wpAnyH_take (i := 1) (oi := ⟨_, _, _, _, _, _⟩) (v := ?_) rfl (by kernel_rfl) (by kernel_rfl) (by kernel_rfl) (fun _ _ _ h => h) (Or.inl ⟨by rfl, ?_⟩) (by assumption) ?_
          rotate_left
          · intro w hSw
            (try dsimp only at hSw)
            go_simp
            (try with_reducible rfl)
          (try simp only [Act.put, List.setIfInBounds_toArray, List.set_cons_zero, List.set_cons_succ])
          refine wpAnyH_take (i := 2) (oi := ⟨_, _, _, _, _, _⟩) (v := ?_) rfl (by kernel_rfl) (by kernel_rfl) (by kernel_rfl) (fun _ _ _ h => h) (Or.inl ⟨by rfl, ?_⟩) (by assumption) ?_
          rotate_left
          · intro w hSw
            (try dsimp only at hSw)
            go_simp
            (try with_reducible rfl)
          (try simp only [Act.put, List.setIfInBounds_toArray, List.set_cons_zero, List.set_cons_succ])
          refine wpAnyH_take (i := 5) (oi := ⟨_, _, _, _, _, _⟩) (v := ?_) rfl (by kernel_rfl) (by kernel_rfl) (by kernel_rfl) (fun _ _ _ h => h) (Or.inl ⟨by rfl, ?_⟩) (by assumption) ?_
          rotate_left
          · intro w hSw
            (try dsimp only at hSw)
            go_simp
            (try with_reducible rfl)
          (try simp only [Act.put, List.setIfInBounds_toArray, List.set_cons_zero, List.set_cons_succ])
          refine wpAnyH_take (i := 3) (oi := ⟨_, _, _, _, _, _⟩) (v := ?_) rfl (by kernel_rfl) (by kernel_rfl) (by kernel_rfl) (fun _ _ _ h => h) (Or.inl ⟨by rfl, ?_⟩) (by assumption) ?_
          rotate_left
          · intro w hSw
            (try dsimp only at hSw)
            go_simp
            (try with_reducible rfl)
          (try simp only [Act.put, List.setIfInBounds_toArray, List.set_cons_zero, List.set_cons_succ])
          refine wpAnyH_ready (rs := [4, 10]) (by kernel_rfl) (by simp) ?_
          refine AllReadyH.cons (o := ⟨_, _, _, _, _, _⟩) rfl (fun K hK => ?_) (AllReadyH.cons (o := ⟨_, _, _, _, _, _⟩) rfl (fun K hK => ?_) AllReadyH.nil)
          · go_simp
            (go_at_call 58; refine (HNU.out _).mono ?_; rintro e wx ⟨rfl, hb⟩; (repeat (first | replace hb := below_undrew hb | replace hb := below_undrewN hb)); replace b0 := cell_keep b0 bl hb; replace b1 := cell_keep b1 bl hb; replace b2 := cell_keep b2 bl hb; replace b3 := cell_keep b3 bl hb; replace bl := lt_keep bl hb; replace HO := Lib.hid (HO.out.keep hb); replace HB := Lib.hid (HB.out.trans (hb.mono HB.out.size)); replace hsw := Nat.le_trans hsw hb.size; replace SB := Lib.hid (SB.out.keep hb); replace s0 := cell_keep s0 sl hb; replace s1 := cell_keep s1 sl hb; replace sl := lt_keep sl hb; clear hb)
            (try go_wp2_with fail)
            refine hK.out _ _ ?_ (fun hHeld => ?_)
            · (try dsimp only)
              exact ⟨b0, b1, b2, b3, s0, s1⟩
            clear hK K
            (try simp only [Act.put, List.setIfInBounds_toArray, List.set_cons_zero, List.set_cons_succ])
            refine wpAnyH_ready (rs := [6, 10]) (by kernel_rfl) (by simp) ?_
            refine AllReadyH.cons (o := ⟨_, _, _, _, _, _⟩) rfl (fun K hK => ?_) (AllReadyH.cons (o := ⟨_, _, _, _, _, _⟩) rfl (fun K hK => ?_) AllReadyH.nil)
            · go_simp
              (go_at_call 57; refine (HAF.out _).mono ?_; rw [hi]; rintro e wy ⟨rfl, hb⟩; (repeat (first | replace hb := below_undrew hb | replace hb := below_undrewN hb)); replace b0 := cell_keep b0 bl hb; replace b1 := cell_keep b1 bl hb; replace b2 := cell_keep b2 bl hb; replace b3 := cell_keep b3 bl hb; replace bl := lt_keep bl hb; replace HO := Lib.hid (HO.out.keep hb); replace HB := Lib.hid (HB.out.trans (hb.mono HB.out.size)); replace hsw := Nat.le_trans hsw hb.size; replace SB := Lib.hid (SB.out.keep hb); replace s0 := cell_keep s0 sl hb; replace s1 := cell_keep s1 sl hb; replace sl := lt_keep sl hb; clear hb)
              (try go_wp2_with fail)
              refine hK.out _ _ ?_ (fun hHeld => ?_)
              · (try dsimp only)
                exact ⟨b0, b1, b2, b3, s0, s1⟩
              clear hK K
              (try simp only [Act.put, List.setIfInBounds_toArray, List.set_cons_zero, List.set_cons_succ])
              refine wpAnyH_take (i := 7) (oi := ⟨_, _, _, _, _, _⟩) (v := ?_) rfl (by kernel_rfl) (by kernel_rfl) (by kernel_rfl) (fun _ _ _ h => h) (Or.inl ⟨by rfl, ?_⟩) (by assumption) ?_
              rotate_left
              · intro w hSw
                (try dsimp only at hSw)
                go_simp
                (try with_reducible rfl)
              (try simp only [Act.put, List.setIfInBounds_toArray, List.set_cons_zero, List.set_cons_succ])
              refine wpAnyH_take (i := 8) (oi := ⟨_, _, _, _, _, _⟩) (v := ?_) rfl (by kernel_rfl) (by kernel_rfl) (by kernel_rfl) (fun _ _ _ h => h) (Or.inl ⟨by rfl, ?_⟩) (by assumption) ?_
              rotate_left
              · intro w hSw
                (try dsimp only at hSw)
                go_simp
                (try with_reducible rfl)
              (try simp only [Act.put, List.setIfInBounds_toArray, List.set_cons_zero, List.set_cons_succ])
              refine wpAnyH_take (i := 9) (oi := ⟨_, _, _, _, _, _⟩) (v := ?_) rfl (by kernel_rfl) (by kernel_rfl) (by kernel_rfl) (fun _ _ _ h => h) (Or.inl ⟨by rfl, ?_⟩) (by assumption) ?_
              rotate_left
              · intro w hSw
                (try dsimp only at hSw)
                go_simp
                (try with_reducible rfl)
              (try simp only [Act.put, List.setIfInBounds_toArray, List.set_cons_zero, List.set_cons_succ])
              refine wpAnyH_ready (rs := [10]) (by kernel_rfl) (by simp) ?_
              refine AllReadyH.cons (o := ⟨_, _, _, _, _, _⟩) rfl (fun K hK => ?_) AllReadyH.nil
              go_simp
              obtain ⟨wz, hWn⟩ : ∃ W5, W5 = wy.alloc (.cells #[.int .i64 0, .int .i64 0] 59) := ⟨_, rfl⟩
              have hb : Below wy.heap.size wy wz := by rw [hWn]; exact below_new (Below.refl _ _) _
              obtain ⟨gt, hgp⟩ : ∃ gp, gp = wy.heap.size := ⟨_, rfl⟩
              have HGT := Lib.hid (show gs < gt by rw [hgp]; exact sl)
              have TB := Lib.hid (show SpotBox wz gt 0 0 by rw [hWn, hgp]; exact heap_alloc_new _ _)
              rw [← hWn]
              (try rw [← hgp])
              clear hWn hgp
              replace b0 := cell_keep b0 bl hb
              replace b1 := cell_keep b1 bl hb
              replace b2 := cell_keep b2 bl hb
              replace b3 := cell_keep b3 bl hb
              replace bl := lt_keep bl hb
              replace HO := Lib.hid (HO.out.keep hb)
              replace HB := Lib.hid (HB.out.trans (hb.mono HB.out.size))
              replace hsw := Nat.le_trans hsw hb.size
              replace SB := Lib.hid (SB.out.keep hb)
              replace s0 := cell_keep s0 sl hb
              replace s1 := cell_keep s1 sl hb
              replace sl := lt_keep sl hb
              clear hb
              refine hK.out _ _ ?_ (fun hHeld => ?_)
              · (try dsimp only)
                exact ⟨b0, b1, b2, b3, s0, s1⟩
              clear hK K
              (try simp only [Act.put, List.setIfInBounds_toArray, List.set_cons_zero, List.set_cons_succ])
              refine wpAnyH_ready (rs := [11]) (by kernel_rfl) (by simp) ?_
              refine AllReadyH.cons (o := ⟨_, _, _, _, _, _⟩) rfl (fun K hK => ?_) AllReadyH.nil
              have z0 := TB.out.c0; have z1 := TB.out.c1
              have f0 : wz.frozen? ⟨gt, 0, none⟩ = false := frozen_of_row wz _ 0 _ _ TB.out
              have f1 : wz.frozen? ⟨gt, 1, none⟩ = false := frozen_of_row wz _ 1 _ _ TB.out
              go_simp
              obtain ⟨W6, hWn⟩ : ∃ W6, W6 = (wz.setCell ⟨gt, 0, none⟩ (.int .i64 P)).setCell ⟨gt, 1, none⟩ (.int .i64 R) := ⟨_, rfl⟩
              have hgr : wz.grownBy W6 (some gt) := by rw [hWn]; exact grown_next (grownSet _ ⟨gt, 0, none⟩ _) (grownSet _ ⟨gt, 1, none⟩ _)
              have hgne := HGT.out; have hgse := HGS.out; have hbse := HBS.out
              replace HO := Lib.hid (HO.out.other hgr (fun a9 ha9 he => TB.out.apart HO.out a9 ha9 (by injection he)))
              replace TB := Lib.hid (show SpotBox W6 gt P R by rw [hWn]; exact TB.out.set _ _)
              replace HB := Lib.hid (HB.out.grown hgr HB.out.size (fun g9 h9 => by injection h9 with h9; omega))
              replace b0 := hgr.cell b0 (by simp; omega)
              replace b1 := hgr.cell b1 (by simp; omega)
              replace b2 := hgr.cell b2 (by simp; omega)
              replace b3 := hgr.cell b3 (by simp; omega)
              replace s0 := hgr.cell s0 (by simp; omega)
              replace s1 := hgr.cell s1 (by simp; omega)
              replace bl := Nat.lt_of_lt_of_le bl hgr.size
              replace hsw := Nat.le_trans hsw hgr.size
              rw [← hWn]
              clear hWn hgr z0 z1 f0 f1 hgne hgse hbse
              refine hK.out _ _ ?_ (fun hHeld => ?_)
              · (try dsimp only)
                exact ⟨b0, b1, b2, b3, s0, s1⟩
              clear hK K
              (try simp only [Act.put, List.setIfInBounds_toArray, List.set_cons_zero, List.set_cons_succ])
              refine wpAnyH_take (i := 12) (oi := ⟨_, _, _, _, _, _⟩) (v := ?_) rfl (by kernel_rfl) (by kernel_rfl) (by kernel_rfl) (fun _ _ _ h => h) (Or.inl ⟨by rfl, ?_⟩) (by assumption) ?_
              rotate_left
              · intro w hSw
                (try dsimp only at hSw)
                go_simp
                (try with_reducible rfl)
              (try simp only [Act.put, List.setIfInBounds_toArray, List.set_cons_zero, List.set_cons_succ])
              refine wpAnyH_done (by kernel_rfl) ?_ _
              have t0 := TB.out.c0; have t1 := TB.out.c1
              have tl := TB.out.lt
              clear hHeld s0 s1
              go_wp2_with fail
              refine (number_gen P R W _ HPB.out HRW.out).mono ?_
              rintro e w9 ⟨rfl, hb⟩
              replace b0 := cell_keep b0 bl hb
              replace b1 := cell_keep b1 bl hb
              replace b2 := cell_keep b2 bl hb
              replace b3 := cell_keep b3 bl hb
              replace bl := lt_keep bl hb
              replace t0 := cell_keep t0 tl hb; replace t1 := cell_keep t1 tl hb; replace tl := lt_keep tl hb
              replace HO := Lib.hid (HO.out.keep hb)
              replace HB := Lib.hid (HB.out.trans (hb.mono HB.out.size))
              replace hsw := Nat.le_trans hsw hb.size
              clear hb
              rw [HSQ.out]
              clear t0 t1 tl b0 b1 b2 b3 bl
              go_wp2
              go_roundw
              case rel => exact ⟨k + 1, n', c', A', by omega, by go_num, rfl, by rw [HE.out]; exact HO.out, HB.out⟩
              case measure => simp [intOf]; omega
            · go_simp
              obtain ⟨wz, hWn⟩ : ∃ W5, W5 = wx.alloc (.cells #[.int .i64 0, .int .i64 0] 59) := ⟨_, rfl⟩
              have hb : Below wx.heap.size wx wz := by rw [hWn]; exact below_new (Below.refl _ _) _
              obtain ⟨gt, hgp⟩ : ∃ gp, gp = wx.heap.size := ⟨_, rfl⟩
              have HGT := Lib.hid (show gs < gt by rw [hgp]; exact sl)
              have TB := Lib.hid (show SpotBox wz gt 0 0 by rw [hWn, hgp]; exact heap_alloc_new _ _)
              rw [← hWn]
              (try rw [← hgp])
              clear hWn hgp
              replace b0 := cell_keep b0 bl hb
              replace b1 := cell_keep b1 bl hb
              replace b2 := cell_keep b2 bl hb
              replace b3 := cell_keep b3 bl hb
              replace bl := lt_keep bl hb
              replace HO := Lib.hid (HO.out.keep hb)
              replace HB := Lib.hid (HB.out.trans (hb.mono HB.out.size))
              replace hsw := Nat.le_trans hsw hb.size
              replace SB := Lib.hid (SB.out.keep hb)
              replace s0 := cell_keep s0 sl hb
              replace s1 := cell_keep s1 sl hb
              replace sl := lt_keep sl hb
              clear hb
              refine hK.out _ _ ?_ (fun hHeld => ?_)
              · (try dsimp only)
                exact ⟨b0, b1, b2, b3, s0, s1⟩
              clear hK K
              (try simp only [Act.put, List.setIfInBounds_toArray, List.set_cons_zero, List.set_cons_succ])
              refine wpAnyH_ready (rs := [6]) (by kernel_rfl) (by simp) ?_
              refine AllReadyH.cons (o := ⟨_, _, _, _, _, _⟩) rfl (fun K hK => ?_) AllReadyH.nil
              go_simp
              (go_at_call 57; refine (HAF.out _).mono ?_; rw [hi]; rintro e wy ⟨rfl, hb⟩; (repeat (first | replace hb := below_undrew hb | replace hb := below_undrewN hb)); replace b0 := cell_keep b0 bl hb; replace b1 := cell_keep b1 bl hb; replace b2 := cell_keep b2 bl hb; replace b3 := cell_keep b3 bl hb; replace bl := lt_keep bl hb; replace HO := Lib.hid (HO.out.keep hb); replace HB := Lib.hid (HB.out.trans (hb.mono HB.out.size)); replace hsw := Nat.le_trans hsw hb.size; replace SB := Lib.hid (SB.out.keep hb); replace s0 := cell_keep s0 sl hb; replace s1 := cell_keep s1 sl hb; replace sl := lt_keep sl hb; replace TB := Lib.hid (TB.out.keep hb); clear hb)
              (try go_wp2_with fail)
              refine hK.out _ _ ?_ (fun hHeld => ?_)
              · (try dsimp only)
                exact ⟨b0, b1, b2, b3, s0, s1⟩
              clear hK K
              (try simp only [Act.put, List.setIfInBounds_toArray, List.set_cons_zero, List.set_cons_succ])
              refine wpAnyH_take (i := 7) (oi := ⟨_, _, _, _, _, _⟩) (v := ?_) rfl (by kernel_rfl) (by kernel_rfl) (by kernel_rfl) (fun _ _ _ h => h) (Or.inl ⟨by rfl, ?_⟩) (by assumption) ?_
              rotate_left
              · intro w hSw
                (try dsimp only at hSw)
                go_simp
                (try with_reducible rfl)
              (try simp only [Act.put, List.setIfInBounds_toArray, List.set_cons_zero, List.set_cons_succ])
              refine wpAnyH_take (i := 8) (oi := ⟨_, _, _, _, _, _⟩) (v := ?_) rfl (by kernel_rfl) (by kernel_rfl) (by kernel_rfl) (fun _ _ _ h => h) (Or.inl ⟨by rfl, ?_⟩) (by assumption) ?_
              rotate_left
              · intro w hSw
                (try dsimp only at hSw)
                go_simp
                (try with_reducible rfl)
              (try simp only [Act.put, List.setIfInBounds_toArray, List.set_cons_zero, List.set_cons_succ])
              refine wpAnyH_take (i := 9) (oi := ⟨_, _, _, _, _, _⟩) (v := ?_) rfl (by kernel_rfl) (by kernel_rfl) (by kernel_rfl) (fun _ _ _ h => h) (Or.inl ⟨by rfl, ?_⟩) (by assumption) ?_
              rotate_left
              · intro w hSw
                (try dsimp only at hSw)
                go_simp
                (try with_reducible rfl)
              (try simp only [Act.put, List.setIfInBounds_toArray, List.set_cons_zero, List.set_cons_succ])
              refine wpAnyH_ready (rs := [11]) (by kernel_rfl) (by simp) ?_
              refine AllReadyH.cons (o := ⟨_, _, _, _, _, _⟩) rfl (fun K hK => ?_) AllReadyH.nil
              have z0 := TB.out.c0; have z1 := TB.out.c1
              have f0 : wy.frozen? ⟨gt, 0, none⟩ = false := frozen_of_row wy _ 0 _ _ TB.out
              have f1 : wy.frozen? ⟨gt, 1, none⟩ = false := frozen_of_row wy _ 1 _ _ TB.out
              go_simp
              obtain ⟨W6, hWn⟩ : ∃ W6, W6 = (wy.setCell ⟨gt, 0, none⟩ (.int .i64 P)).setCell ⟨gt, 1, none⟩ (.int .i64 R) := ⟨_, rfl⟩
              have hgr : wy.grownBy W6 (some gt) := by rw [hWn]; exact grown_next (grownSet _ ⟨gt, 0, none⟩ _) (grownSet _ ⟨gt, 1, none⟩ _)
              have hgne := HGT.out; have hgse := HGS.out; have hbse := HBS.out
              replace HO := Lib.hid (HO.out.other hgr (fun a9 ha9 he => TB.out.apart HO.out a9 ha9 (by injection he)))
              replace TB := Lib.hid (show SpotBox W6 gt P R by rw [hWn]; exact TB.out.set _ _)
              replace HB := Lib.hid (HB.out.grown hgr HB.out.size (fun g9 h9 => by injection h9 with h9; omega))
              replace b0 := hgr.cell b0 (by simp; omega)
              replace b1 := hgr.cell b1 (by simp; omega)
              replace b2 := hgr.cell b2 (by simp; omega)
              replace b3 := hgr.cell b3 (by simp; omega)
              replace s0 := hgr.cell s0 (by simp; omega)
              replace s1 := hgr.cell s1 (by simp; omega)
              replace bl := Nat.lt_of_lt_of_le bl hgr.size
              replace hsw := Nat.le_trans hsw hgr.size
              rw [← hWn]
              clear hWn hgr z0 z1 f0 f1 hgne hgse hbse
              refine hK.out _ _ ?_ (fun hHeld => ?_)
              · (try dsimp only)
                exact ⟨b0, b1, b2, b3, s0, s1⟩
              clear hK K
              (try simp only [Act.put, List.setIfInBounds_toArray, List.set_cons_zero, List.set_cons_succ])
              refine wpAnyH_take (i := 12) (oi := ⟨_, _, _, _, _, _⟩) (v := ?_) rfl (by kernel_rfl) (by kernel_rfl) (by kernel_rfl) (fun _ _ _ h => h) (Or.inl ⟨by rfl, ?_⟩) (by assumption) ?_
              rotate_left
              · intro w hSw
                (try dsimp only at hSw)
                go_simp
                (try with_reducible rfl)
              (try simp only [Act.put, List.setIfInBounds_toArray, List.set_cons_zero, List.set_cons_succ])
              refine wpAnyH_done (by kernel_rfl) ?_ _
              have t0 := TB.out.c0; have t1 := TB.out.c1
              have tl := TB.out.lt
              clear hHeld s0 s1
              go_wp2_with fail
              refine (number_gen P R W _ HPB.out HRW.out).mono ?_
              rintro e w9 ⟨rfl, hb⟩
              replace b0 := cell_keep b0 bl hb
              replace b1 := cell_keep b1 bl hb
              replace b2 := cell_keep b2 bl hb
              replace b3 := cell_keep b3 bl hb
              replace bl := lt_keep bl hb
              replace t0 := cell_keep t0 tl hb; replace t1 := cell_keep t1 tl hb; replace tl := lt_keep tl hb
              replace HO := Lib.hid (HO.out.keep hb)
              replace HB := Lib.hid (HB.out.trans (hb.mono HB.out.size))
              replace hsw := Nat.le_trans hsw hb.size
              clear hb
              rw [HSQ.out]
              clear t0 t1 tl b0 b1 b2 b3 bl
              go_wp2
              go_roundw
              case rel => exact ⟨k + 1, n', c', A', by omega, by go_num, rfl, by rw [HE.out]; exact HO.out, HB.out⟩
              case measure => simp [intOf]; omega
          · go_simp
            obtain ⟨wz, hWn⟩ : ∃ W5, W5 = W3.alloc (.cells #[.int .i64 0, .int .i64 0] 59) := ⟨_, rfl⟩
            have hb : Below W3.heap.size W3 wz := by rw [hWn]; exact below_new (Below.refl _ _) _
            obtain ⟨gt, hgp⟩ : ∃ gp, gp = W3.heap.size := ⟨_, rfl⟩
            have HGT := Lib.hid (show gs < gt by rw [hgp]; exact sl)
            have TB := Lib.hid (show SpotBox wz gt 0 0 by rw [hWn, hgp]; exact heap_alloc_new _ _)
            rw [← hWn]
            (try rw [← hgp])
            clear hWn hgp
            replace b0 := cell_keep b0 bl hb
            replace b1 := cell_keep b1 bl hb
            replace b2 := cell_keep b2 bl hb
            replace b3 := cell_keep b3 bl hb
            replace bl := lt_keep bl hb
            replace HO := Lib.hid (HO.out.keep hb)
            replace HB := Lib.hid (HB.out.trans (hb.mono HB.out.size))
            replace hsw := Nat.le_trans hsw hb.size
            replace SB := Lib.hid (SB.out.keep hb)
            replace s0 := cell_keep s0 sl hb
            replace s1 := cell_keep s1 sl hb
            replace sl := lt_keep sl hb
            clear hb
            refine hK.out _ _ ?_ (fun hHeld => ?_)
            · (try dsimp only)
              exact ⟨b0, b1, b2, b3, s0, s1⟩
            clear hK K
            (try simp only [Act.put, List.setIfInBounds_toArray, List.set_cons_zero, List.set_cons_succ])
            refine wpAnyH_ready (rs := [4]) (by kernel_rfl) (by simp) ?_
            refine AllReadyH.cons (o := ⟨_, _, _, _, _, _⟩) rfl (fun K hK => ?_) AllReadyH.nil
            go_simp
            (go_at_call 58; refine (HNU.out _).mono ?_; rintro e wx ⟨rfl, hb⟩; (repeat (first | replace hb := below_undrew hb | replace hb := below_undrewN hb)); replace b0 := cell_keep b0 bl hb; replace b1 := cell_keep b1 bl hb; replace b2 := cell_keep b2 bl hb; replace b3 := cell_keep b3 bl hb; replace bl := lt_keep bl hb; replace HO := Lib.hid (HO.out.keep hb); replace HB := Lib.hid (HB.out.trans (hb.mono HB.out.size)); replace hsw := Nat.le_trans hsw hb.size; replace SB := Lib.hid (SB.out.keep hb); replace s0 := cell_keep s0 sl hb; replace s1 := cell_keep s1 sl hb; replace sl := lt_keep sl hb; replace TB := Lib.hid (TB.out.keep hb); clear hb)
            (try go_wp2_with fail)
            refine hK.out _ _ ?_ (fun hHeld => ?_)
            · (try dsimp only)
              exact ⟨b0, b1, b2, b3, s0, s1⟩
            clear hK K
            (try simp only [Act.put, List.setIfInBounds_toArray, List.set_cons_zero, List.set_cons_succ])
            refine wpAnyH_ready (rs := [6]) (by kernel_rfl) (by simp) ?_
            refine AllReadyH.cons (o := ⟨_, _, _, _, _, _⟩) rfl (fun K hK => ?_) AllReadyH.nil
            go_simp
            (go_at_call 57; refine (HAF.out _).mono ?_; rw [hi]; rintro e wy ⟨rfl, hb⟩; (repeat (first | replace hb := below_undrew hb | replace hb := below_undrewN hb)); replace b0 := cell_keep b0 bl hb; replace b1 := cell_keep b1 bl hb; replace b2 := cell_keep b2 bl hb; replace b3 := cell_keep b3 bl hb; replace bl := lt_keep bl hb; replace HO := Lib.hid (HO.out.keep hb); replace HB := Lib.hid (HB.out.trans (hb.mono HB.out.size)); replace hsw := Nat.le_trans hsw hb.size; replace SB := Lib.hid (SB.out.keep hb); replace s0 := cell_keep s0 sl hb; replace s1 := cell_keep s1 sl hb; replace sl := lt_keep sl hb; replace TB := Lib.hid (TB.out.keep hb); clear hb)
            (try go_wp2_with fail)
            refine hK.out _ _ ?_ (fun hHeld => ?_)
            · (try dsimp only)
              exact ⟨b0, b1, b2, b3, s0, s1⟩
            clear hK K
            (try simp only [Act.put, List.setIfInBounds_toArray, List.set_cons_zero, List.set_cons_succ])
            refine wpAnyH_take (i := 7) (oi := ⟨_, _, _, _, _, _⟩) (v := ?_) rfl (by kernel_rfl) (by kernel_rfl) (by kernel_rfl) (fun _ _ _ h => h) (Or.inl ⟨by rfl, ?_⟩) (by assumption) ?_
            rotate_left
            · intro w hSw
              (try dsimp only at hSw)
              go_simp
              (try with_reducible rfl)
            (try simp only [Act.put, List.setIfInBounds_toArray, List.set_cons_zero, List.set_cons_succ])
            refine wpAnyH_take (i := 8) (oi := ⟨_, _, _, _, _, _⟩) (v := ?_) rfl (by kernel_rfl) (by kernel_rfl) (by kernel_rfl) (fun _ _ _ h => h) (Or.inl ⟨by rfl, ?_⟩) (by assumption) ?_
            rotate_left
            · intro w hSw
              (try dsimp only at hSw)
              go_simp
              (try with_reducible rfl)
            (try simp only [Act.put, List.setIfInBounds_toArray, List.set_cons_zero, List.set_cons_succ])
            refine wpAnyH_take (i := 9) (oi := ⟨_, _, _, _, _, _⟩) (v := ?_) rfl (by kernel_rfl) (by kernel_rfl) (by kernel_rfl) (fun _ _ _ h => h) (Or.inl ⟨by rfl, ?_⟩) (by assumption) ?_
            rotate_left
            · intro w hSw
              (try dsimp only at hSw)
              go_simp
              (try with_reducible rfl)
            (try simp only [Act.put, List.setIfInBounds_toArray, List.set_cons_zero, List.set_cons_succ])
            refine wpAnyH_ready (rs := [11]) (by kernel_rfl) (by simp) ?_
            refine AllReadyH.cons (o := ⟨_, _, _, _, _, _⟩) rfl (fun K hK => ?_) AllReadyH.nil
            have z0 := TB.out.c0; have z1 := TB.out.c1
            have f0 : wy.frozen? ⟨gt, 0, none⟩ = false := frozen_of_row wy _ 0 _ _ TB.out
            have f1 : wy.frozen? ⟨gt, 1, none⟩ = false := frozen_of_row wy _ 1 _ _ TB.out
            go_simp
            obtain ⟨W6, hWn⟩ : ∃ W6, W6 = (wy.setCell ⟨gt, 0, none⟩ (.int .i64 P)).setCell ⟨gt, 1, none⟩ (.int .i64 R) := ⟨_, rfl⟩
            have hgr : wy.grownBy W6 (some gt) := by rw [hWn]; exact grown_next (grownSet _ ⟨gt, 0, none⟩ _) (grownSet _ ⟨gt, 1, none⟩ _)
            have hgne := HGT.out; have hgse := HGS.out; have hbse := HBS.out
            replace HO := Lib.hid (HO.out.other hgr (fun a9 ha9 he => TB.out.apart HO.out a9 ha9 (by injection he)))
            replace TB := Lib.hid (show SpotBox W6 gt P R by rw [hWn]; exact TB.out.set _ _)
            replace HB := Lib.hid (HB.out.grown hgr HB.out.size (fun g9 h9 => by injection h9 with h9; omega))
            replace b0 := hgr.cell b0 (by simp; omega)
            replace b1 := hgr.cell b1 (by simp; omega)
            replace b2 := hgr.cell b2 (by simp; omega)
            replace b3 := hgr.cell b3 (by simp; omega)
            replace s0 := hgr.cell s0 (by simp; omega)
            replace s1 := hgr.cell s1 (by simp; omega)
            replace bl := Nat.lt_of_lt_of_le bl hgr.size
            replace hsw := Nat.le_trans hsw hgr.size
            rw [← hWn]
            clear hWn hgr z0 z1 f0 f1 hgne hgse hbse
            refine hK.out _ _ ?_ (fun hHeld => ?_)
            · (try dsimp only)
              exact ⟨b0, b1, b2, b3, s0, s1⟩
            clear hK K
            (try simp only [Act.put, List.setIfInBounds_toArray, List.set_cons_zero, List.set_cons_succ])
            refine wpAnyH_take (i := 12) (oi := ⟨_, _, _, _, _, _⟩) (v := ?_) rfl (by kernel_rfl) (by kernel_rfl) (by kernel_rfl) (fun _ _ _ h => h) (Or.inl ⟨by rfl, ?_⟩) (by assumption) ?_
            rotate_left
            · intro w hSw
              (try dsimp only at hSw)
              go_simp
              (try with_reducible rfl)
            (try simp only [Act.put, List.setIfInBounds_toArray, List.set_cons_zero, List.set_cons_succ])
            refine wpAnyH_done (by kernel_rfl) ?_ _
            have t0 := TB.out.c0; have t1 := TB.out.c1
            have tl := TB.out.lt
            clear hHeld s0 s1
            go_wp2_with fail
            refine (number_gen P R W _ HPB.out HRW.out).mono ?_
            rintro e w9 ⟨rfl, hb⟩
            replace b0 := cell_keep b0 bl hb
            replace b1 := cell_keep b1 bl hb
            replace b2 := cell_keep b2 bl hb
            replace b3 := cell_keep b3 bl hb
            replace bl := lt_keep bl hb
            replace t0 := cell_keep t0 tl hb; replace t1 := cell_keep t1 tl hb; replace tl := lt_keep tl hb
            replace HO := Lib.hid (HO.out.keep hb)
            replace HB := Lib.hid (HB.out.trans (hb.mono HB.out.size))
            replace hsw := Nat.le_trans hsw hb.size
            clear hb
            rw [HSQ.out]
            clear t0 t1 tl b0 b1 b2 b3 bl
            go_wp2
            go_roundw
            case rel => exact ⟨k + 1, n', c', A', by omega, by go_num, rfl, by rw [HE.out]; exact HO.out, HB.out⟩
            case measure => simp [intOf]; omega
        · have HE := Lib.hid (HYES.out (HOI.out.2 ⟨HS0.out, hsq⟩))
          have hsq2 : (S == q) = false := by simpa using hsq
          refine wp_region_held_drew (S := fun w' => w'.cell? ⟨w.heap.size, 0, none⟩ = some (.int .i64 W) ∧ w'.cell? ⟨w.heap.size, 1, none⟩ = some (.int .i64 H) ∧ w'.cell? ⟨w.heap.size, 2, none⟩ = some (.bool ac) ∧ w'.cell? ⟨w.heap.size, 3, none⟩ = some (.bool up) ∧ w'.cell? ⟨gs, 0, none⟩ = some (.int .i64 dx) ∧ w'.cell? ⟨gs, 1, none⟩ = some (.int .i64 dy)) (by kernel_rfl) ?_ (fun hHeld => ?_)
          · (try dsimp only)
            exact ⟨b0, b1, b2, b3, s0, s1⟩
          refine wpAnyH_take (i := 0) (oi := ⟨_, _, _, _, _, _⟩) (v := ?_) rfl (by kernel_rfl) (by kernel_rfl) (by kernel_rfl) (fun _ _ _ h => h) (Or.inl ⟨by rfl, ?_⟩) (by assumption) ?_
          rotate_left
          · intro w hSw
            (try dsimp only at hSw)
            go_simp
            (try with_reducible rfl)
          (try simp only [Act.put, List.setIfInBounds_toArray, List.set_cons_zero, List.set_cons_succ])
          refine wpAnyH_take (i := 1) (oi := ⟨_, _, _, _, _, _⟩) (v := ?_) rfl (by kernel_rfl) (by kernel_rfl) (by kernel_rfl) (fun _ _ _ h => h) (Or.inl ⟨by rfl, ?_⟩) (by assumption) ?_
          rotate_left
          · intro w hSw
            (try dsimp only at hSw)
            go_simp
            (try with_reducible rfl)
          (try simp only [Act.put, List.setIfInBounds_toArray, List.set_cons_zero, List.set_cons_succ])
          refine wpAnyH_take (i := 2) (oi := ⟨_, _, _, _, _, _⟩) (v := ?_) rfl (by kernel_rfl) (by kernel_rfl) (by kernel_rfl) (fun _ _ _ h => h) (Or.inl ⟨by rfl, ?_⟩) (by assumption) ?_
          rotate_left
          · intro w hSw
            (try dsimp only at hSw)
            go_simp
            (try with_reducible rfl)
          (try simp only [Act.put, List.setIfInBounds_toArray, List.set_cons_zero, List.set_cons_succ])
          refine wpAnyH_take (i := 5) (oi := ⟨_, _, _, _, _, _⟩) (v := ?_) rfl (by kernel_rfl) (by kernel_rfl) (by kernel_rfl) (fun _ _ _ h => h) (Or.inl ⟨by rfl, ?_⟩) (by assumption) ?_
          rotate_left
          · intro w hSw
            (try dsimp only at hSw)
            go_simp
            (try with_reducible rfl)
          (try simp only [Act.put, List.setIfInBounds_toArray, List.set_cons_zero, List.set_cons_succ])
          refine wpAnyH_take (i := 3) (oi := ⟨_, _, _, _, _, _⟩) (v := ?_) rfl (by kernel_rfl) (by kernel_rfl) (by kernel_rfl) (fun _ _ _ h => h) (Or.inl ⟨by rfl, ?_⟩) (by assumption) ?_
          rotate_left
          · intro w hSw
            (try dsimp only at hSw)
            go_simp
            (try with_reducible rfl)
          (try simp only [Act.put, List.setIfInBounds_toArray, List.set_cons_zero, List.set_cons_succ])
          refine wpAnyH_ready (rs := [4, 10]) (by kernel_rfl) (by simp) ?_
          refine AllReadyH.cons (o := ⟨_, _, _, _, _, _⟩) rfl (fun K hK => ?_) (AllReadyH.cons (o := ⟨_, _, _, _, _, _⟩) rfl (fun K hK => ?_) AllReadyH.nil)
          · go_simp
            (go_at_call 58; refine (HNU.out _).mono ?_; rintro e wx ⟨rfl, hb⟩; (repeat (first | replace hb := below_undrew hb | replace hb := below_undrewN hb)); replace b0 := cell_keep b0 bl hb; replace b1 := cell_keep b1 bl hb; replace b2 := cell_keep b2 bl hb; replace b3 := cell_keep b3 bl hb; replace bl := lt_keep bl hb; replace HO := Lib.hid (HO.out.keep hb); replace HB := Lib.hid (HB.out.trans (hb.mono HB.out.size)); replace hsw := Nat.le_trans hsw hb.size; replace SB := Lib.hid (SB.out.keep hb); replace s0 := cell_keep s0 sl hb; replace s1 := cell_keep s1 sl hb; replace sl := lt_keep sl hb; clear hb)
            (try go_wp2_with fail)
            refine hK.out _ _ ?_ (fun hHeld => ?_)
            · (try dsimp only)
              exact ⟨b0, b1, b2, b3, s0, s1⟩
            clear hK K
            (try simp only [Act.put, List.setIfInBounds_toArray, List.set_cons_zero, List.set_cons_succ])
            refine wpAnyH_ready (rs := [6, 10]) (by kernel_rfl) (by simp) ?_
            refine AllReadyH.cons (o := ⟨_, _, _, _, _, _⟩) rfl (fun K hK => ?_) (AllReadyH.cons (o := ⟨_, _, _, _, _, _⟩) rfl (fun K hK => ?_) AllReadyH.nil)
            · go_simp
              (go_at_call 57; refine (HAF.out _).mono ?_; rw [hi]; rintro e wy ⟨rfl, hb⟩; (repeat (first | replace hb := below_undrew hb | replace hb := below_undrewN hb)); replace b0 := cell_keep b0 bl hb; replace b1 := cell_keep b1 bl hb; replace b2 := cell_keep b2 bl hb; replace b3 := cell_keep b3 bl hb; replace bl := lt_keep bl hb; replace HO := Lib.hid (HO.out.keep hb); replace HB := Lib.hid (HB.out.trans (hb.mono HB.out.size)); replace hsw := Nat.le_trans hsw hb.size; replace SB := Lib.hid (SB.out.keep hb); replace s0 := cell_keep s0 sl hb; replace s1 := cell_keep s1 sl hb; replace sl := lt_keep sl hb; clear hb)
              (try go_wp2_with fail)
              refine hK.out _ _ ?_ (fun hHeld => ?_)
              · (try dsimp only)
                exact ⟨b0, b1, b2, b3, s0, s1⟩
              clear hK K
              (try simp only [Act.put, List.setIfInBounds_toArray, List.set_cons_zero, List.set_cons_succ])
              refine wpAnyH_take (i := 7) (oi := ⟨_, _, _, _, _, _⟩) (v := ?_) rfl (by kernel_rfl) (by kernel_rfl) (by kernel_rfl) (fun _ _ _ h => h) (Or.inl ⟨by rfl, ?_⟩) (by assumption) ?_
              rotate_left
              · intro w hSw
                (try dsimp only at hSw)
                go_simp
                (try with_reducible rfl)
              (try simp only [Act.put, List.setIfInBounds_toArray, List.set_cons_zero, List.set_cons_succ])
              refine wpAnyH_take (i := 8) (oi := ⟨_, _, _, _, _, _⟩) (v := ?_) rfl (by kernel_rfl) (by kernel_rfl) (by kernel_rfl) (fun _ _ _ h => h) (Or.inl ⟨by rfl, ?_⟩) (by assumption) ?_
              rotate_left
              · intro w hSw
                (try dsimp only at hSw)
                go_simp
                (try with_reducible rfl)
              (try simp only [Act.put, List.setIfInBounds_toArray, List.set_cons_zero, List.set_cons_succ])
              refine wpAnyH_take (i := 9) (oi := ⟨_, _, _, _, _, _⟩) (v := ?_) rfl (by kernel_rfl) (by kernel_rfl) (by kernel_rfl) (fun _ _ _ h => h) (Or.inl ⟨by rfl, ?_⟩) (by assumption) ?_
              rotate_left
              · intro w hSw
                (try dsimp only at hSw)
                go_simp
                (try with_reducible rfl)
              (try simp only [Act.put, List.setIfInBounds_toArray, List.set_cons_zero, List.set_cons_succ])
              refine wpAnyH_ready (rs := [10]) (by kernel_rfl) (by simp) ?_
              refine AllReadyH.cons (o := ⟨_, _, _, _, _, _⟩) rfl (fun K hK => ?_) AllReadyH.nil
              go_simp
              obtain ⟨wz, hWn⟩ : ∃ W5, W5 = wy.alloc (.cells #[.int .i64 0, .int .i64 0] 59) := ⟨_, rfl⟩
              have hb : Below wy.heap.size wy wz := by rw [hWn]; exact below_new (Below.refl _ _) _
              obtain ⟨gt, hgp⟩ : ∃ gp, gp = wy.heap.size := ⟨_, rfl⟩
              have HGT := Lib.hid (show gs < gt by rw [hgp]; exact sl)
              have TB := Lib.hid (show SpotBox wz gt 0 0 by rw [hWn, hgp]; exact heap_alloc_new _ _)
              rw [← hWn]
              (try rw [← hgp])
              clear hWn hgp
              replace b0 := cell_keep b0 bl hb
              replace b1 := cell_keep b1 bl hb
              replace b2 := cell_keep b2 bl hb
              replace b3 := cell_keep b3 bl hb
              replace bl := lt_keep bl hb
              replace HO := Lib.hid (HO.out.keep hb)
              replace HB := Lib.hid (HB.out.trans (hb.mono HB.out.size))
              replace hsw := Nat.le_trans hsw hb.size
              replace SB := Lib.hid (SB.out.keep hb)
              replace s0 := cell_keep s0 sl hb
              replace s1 := cell_keep s1 sl hb
              replace sl := lt_keep sl hb
              clear hb
              refine hK.out _ _ ?_ (fun hHeld => ?_)
              · (try dsimp only)
                exact ⟨b0, b1, b2, b3, s0, s1⟩
              clear hK K
              (try simp only [Act.put, List.setIfInBounds_toArray, List.set_cons_zero, List.set_cons_succ])
              refine wpAnyH_ready (rs := [11]) (by kernel_rfl) (by simp) ?_
              refine AllReadyH.cons (o := ⟨_, _, _, _, _, _⟩) rfl (fun K hK => ?_) AllReadyH.nil
              have z0 := TB.out.c0; have z1 := TB.out.c1
              have f0 : wz.frozen? ⟨gt, 0, none⟩ = false := frozen_of_row wz _ 0 _ _ TB.out
              have f1 : wz.frozen? ⟨gt, 1, none⟩ = false := frozen_of_row wz _ 1 _ _ TB.out
              go_simp
              obtain ⟨W6, hWn⟩ : ∃ W6, W6 = (wz.setCell ⟨gt, 0, none⟩ (.int .i64 P)).setCell ⟨gt, 1, none⟩ (.int .i64 R) := ⟨_, rfl⟩
              have hgr : wz.grownBy W6 (some gt) := by rw [hWn]; exact grown_next (grownSet _ ⟨gt, 0, none⟩ _) (grownSet _ ⟨gt, 1, none⟩ _)
              have hgne := HGT.out; have hgse := HGS.out; have hbse := HBS.out
              replace HO := Lib.hid (HO.out.other hgr (fun a9 ha9 he => TB.out.apart HO.out a9 ha9 (by injection he)))
              replace TB := Lib.hid (show SpotBox W6 gt P R by rw [hWn]; exact TB.out.set _ _)
              replace HB := Lib.hid (HB.out.grown hgr HB.out.size (fun g9 h9 => by injection h9 with h9; omega))
              replace b0 := hgr.cell b0 (by simp; omega)
              replace b1 := hgr.cell b1 (by simp; omega)
              replace b2 := hgr.cell b2 (by simp; omega)
              replace b3 := hgr.cell b3 (by simp; omega)
              replace s0 := hgr.cell s0 (by simp; omega)
              replace s1 := hgr.cell s1 (by simp; omega)
              replace bl := Nat.lt_of_lt_of_le bl hgr.size
              replace hsw := Nat.le_trans hsw hgr.size
              rw [← hWn]
              clear hWn hgr z0 z1 f0 f1 hgne hgse hbse
              refine hK.out _ _ ?_ (fun hHeld => ?_)
              · (try dsimp only)
                exact ⟨b0, b1, b2, b3, s0, s1⟩
              clear hK K
              (try simp only [Act.put, List.setIfInBounds_toArray, List.set_cons_zero, List.set_cons_succ])
              refine wpAnyH_take (i := 12) (oi := ⟨_, _, _, _, _, _⟩) (v := ?_) rfl (by kernel_rfl) (by kernel_rfl) (by kernel_rfl) (fun _ _ _ h => h) (Or.inl ⟨by rfl, ?_⟩) (by assumption) ?_
              rotate_left
              · intro w hSw
                (try dsimp only at hSw)
                go_simp
                (try with_reducible rfl)
              (try simp only [Act.put, List.setIfInBounds_toArray, List.set_cons_zero, List.set_cons_succ])
              refine wpAnyH_done (by kernel_rfl) ?_ _
              have t0 := TB.out.c0; have t1 := TB.out.c1
              have tl := TB.out.lt
              clear hHeld s0 s1
              go_wp2_with fail
              refine (number_gen P R W _ HPB.out HRW.out).mono ?_
              rintro e w9 ⟨rfl, hb⟩
              replace b0 := cell_keep b0 bl hb
              replace b1 := cell_keep b1 bl hb
              replace b2 := cell_keep b2 bl hb
              replace b3 := cell_keep b3 bl hb
              replace bl := lt_keep bl hb
              replace t0 := cell_keep t0 tl hb; replace t1 := cell_keep t1 tl hb; replace tl := lt_keep tl hb
              replace HO := Lib.hid (HO.out.keep hb)
              replace HB := Lib.hid (HB.out.trans (hb.mono HB.out.size))
              replace hsw := Nat.le_trans hsw hb.size
              clear hb
              rw [HSQ.out]
              go_wp2_with fail
              refine (number_gen P R W _ HPB.out HRW.out).mono ?_
              rintro e w10 ⟨rfl, hb⟩
              replace b0 := cell_keep b0 bl hb
              replace b1 := cell_keep b1 bl hb
              replace b2 := cell_keep b2 bl hb
              replace b3 := cell_keep b3 bl hb
              replace bl := lt_keep bl hb
              replace t0 := cell_keep t0 tl hb; replace t1 := cell_keep t1 tl hb; replace tl := lt_keep tl hb
              replace HO := Lib.hid (HO.out.keep hb)
              replace HB := Lib.hid (HB.out.trans (hb.mono HB.out.size))
              replace hsw := Nat.le_trans hsw hb.size
              clear hb
              rw [HSQ.out]
              clear t0 t1 tl b0 b1 b2 b3 bl
              go_wp2_with (at_builtin; refine wpList_app1 rfl (.tmp 38) (.tmp 43) 33 3 rfl i0 Try.underlying33 HI.out HZ0.out HZ1.out HZ2.out ws.heap.size A' n' c' _ S rfl HO.out rfl (by omega) hsw ?_; intro A3 c3 w5 hown3 hb5)
              have O3 := Lib.hid hown3
              have B3 := Lib.hid (HB.out.trans hb5)
              clear hown3 hb5
              go_wp2
              go_roundw
              case rel => exact ⟨k + 1, n' + 1, c3, A3, by omega, by go_num, rfl, by rw [HE.out]; exact O3.out, B3.out⟩
              case measure => simp [intOf]; omega
            · go_simp
              obtain ⟨wz, hWn⟩ : ∃ W5, W5 = wx.alloc (.cells #[.int .i64 0, .int .i64 0] 59) := ⟨_, rfl⟩
              have hb : Below wx.heap.size wx wz := by rw [hWn]; exact below_new (Below.refl _ _) _
              obtain ⟨gt, hgp⟩ : ∃ gp, gp = wx.heap.size := ⟨_, rfl⟩
              have HGT := Lib.hid (show gs < gt by rw [hgp]; exact sl)
              have TB := Lib.hid (show SpotBox wz gt 0 0 by rw [hWn, hgp]; exact heap_alloc_new _ _)
              rw [← hWn]
              (try rw [← hgp])
              clear hWn hgp
              replace b0 := cell_keep b0 bl hb
              replace b1 := cell_keep b1 bl hb
              replace b2 := cell_keep b2 bl hb
              replace b3 := cell_keep b3 bl hb
              replace bl := lt_keep bl hb
              replace HO := Lib.hid (HO.out.keep hb)
              replace HB := Lib.hid (HB.out.trans (hb.mono HB.out.size))
              replace hsw := Nat.le_trans hsw hb.size
              replace SB := Lib.hid (SB.out.keep hb)
              replace s0 := cell_keep s0 sl hb
              replace s1 := cell_keep s1 sl hb
              replace sl := lt_keep sl hb
              clear hb
              refine hK.out _ _ ?_ (fun hHeld => ?_)
              · (try dsimp only)
                exact ⟨b0, b1, b2, b3, s0, s1⟩
              clear hK K
              (try simp only [Act.put, List.setIfInBounds_toArray, List.set_cons_zero, List.set_cons_succ])
              refine wpAnyH_ready (rs := [6]) (by kernel_rfl) (by simp) ?_
              refine AllReadyH.cons (o := ⟨_, _, _, _, _, _⟩) rfl (fun K hK => ?_) AllReadyH.nil
              go_simp
              (go_at_call 57; refine (HAF.out _).mono ?_; rw [hi]; rintro e wy ⟨rfl, hb⟩; (repeat (first | replace hb := below_undrew hb | replace hb := below_undrewN hb)); replace b0 := cell_keep b0 bl hb; replace b1 := cell_keep b1 bl hb; replace b2 := cell_keep b2 bl hb; replace b3 := cell_keep b3 bl hb; replace bl := lt_keep bl hb; replace HO := Lib.hid (HO.out.keep hb); replace HB := Lib.hid (HB.out.trans (hb.mono HB.out.size)); replace hsw := Nat.le_trans hsw hb.size; replace SB := Lib.hid (SB.out.keep hb); replace s0 := cell_keep s0 sl hb; replace s1 := cell_keep s1 sl hb; replace sl := lt_keep sl hb; replace TB := Lib.hid (TB.out.keep hb); clear hb)
              (try go_wp2_with fail)
              refine hK.out _ _ ?_ (fun hHeld => ?_)
              · (try dsimp only)
                exact ⟨b0, b1, b2, b3, s0, s1⟩
              clear hK K
              (try simp only [Act.put, List.setIfInBounds_toArray, List.set_cons_zero, List.set_cons_succ])
              refine wpAnyH_take (i := 7) (oi := ⟨_, _, _, _, _, _⟩) (v := ?_) rfl (by kernel_rfl) (by kernel_rfl) (by kernel_rfl) (fun _ _ _ h => h) (Or.inl ⟨by rfl, ?_⟩) (by assumption) ?_
              rotate_left
              · intro w hSw
                (try dsimp only at hSw)
                go_simp
                (try with_reducible rfl)
              (try simp only [Act.put, List.setIfInBounds_toArray, List.set_cons_zero, List.set_cons_succ])
              refine wpAnyH_take (i := 8) (oi := ⟨_, _, _, _, _, _⟩) (v := ?_) rfl (by kernel_rfl) (by kernel_rfl) (by kernel_rfl) (fun _ _ _ h => h) (Or.inl ⟨by rfl, ?_⟩) (by assumption) ?_
              rotate_left
              · intro w hSw
                (try dsimp only at hSw)
                go_simp
                (try with_reducible rfl)
              (try simp only [Act.put, List.setIfInBounds_toArray, List.set_cons_zero, List.set_cons_succ])
              refine wpAnyH_take (i := 9) (oi := ⟨_, _, _, _, _, _⟩) (v := ?_) rfl (by kernel_rfl) (by kernel_rfl) (by kernel_rfl) (fun _ _ _ h => h) (Or.inl ⟨by rfl, ?_⟩) (by assumption) ?_
              rotate_left
              · intro w hSw
                (try dsimp only at hSw)
                go_simp
                (try with_reducible rfl)
              (try simp only [Act.put, List.setIfInBounds_toArray, List.set_cons_zero, List.set_cons_succ])
              refine wpAnyH_ready (rs := [11]) (by kernel_rfl) (by simp) ?_
              refine AllReadyH.cons (o := ⟨_, _, _, _, _, _⟩) rfl (fun K hK => ?_) AllReadyH.nil
              have z0 := TB.out.c0; have z1 := TB.out.c1
              have f0 : wy.frozen? ⟨gt, 0, none⟩ = false := frozen_of_row wy _ 0 _ _ TB.out
              have f1 : wy.frozen? ⟨gt, 1, none⟩ = false := frozen_of_row wy _ 1 _ _ TB.out
              go_simp
              obtain ⟨W6, hWn⟩ : ∃ W6, W6 = (wy.setCell ⟨gt, 0, none⟩ (.int .i64 P)).setCell ⟨gt, 1, none⟩ (.int .i64 R) := ⟨_, rfl⟩
              have hgr : wy.grownBy W6 (some gt) := by rw [hWn]; exact grown_next (grownSet _ ⟨gt, 0, none⟩ _) (grownSet _ ⟨gt, 1, none⟩ _)
              have hgne := HGT.out; have hgse := HGS.out; have hbse := HBS.out
              replace HO := Lib.hid (HO.out.other hgr (fun a9 ha9 he => TB.out.apart HO.out a9 ha9 (by injection he)))
              replace TB := Lib.hid (show SpotBox W6 gt P R by rw [hWn]; exact TB.out.set _ _)
              replace HB := Lib.hid (HB.out.grown hgr HB.out.size (fun g9 h9 => by injection h9 with h9; omega))
              replace b0 := hgr.cell b0 (by simp; omega)
              replace b1 := hgr.cell b1 (by simp; omega)
              replace b2 := hgr.cell b2 (by simp; omega)
              replace b3 := hgr.cell b3 (by simp; omega)
              replace s0 := hgr.cell s0 (by simp; omega)
              replace s1 := hgr.cell s1 (by simp; omega)
              replace bl := Nat.lt_of_lt_of_le bl hgr.size
              replace hsw := Nat.le_trans hsw hgr.size
              rw [← hWn]
              clear hWn hgr z0 z1 f0 f1 hgne hgse hbse
              refine hK.out _ _ ?_ (fun hHeld => ?_)
              · (try dsimp only)
                exact ⟨b0, b1, b2, b3, s0, s1⟩
              clear hK K
              (try simp only [Act.put, List.setIfInBounds_toArray, List.set_cons_zero, List.set_cons_succ])
              refine wpAnyH_take (i := 12) (oi := ⟨_, _, _, _, _, _⟩) (v := ?_) rfl (by kernel_rfl) (by kernel_rfl) (by kernel_rfl) (fun _ _ _ h => h) (Or.inl ⟨by rfl, ?_⟩) (by assumption) ?_
              rotate_left
              · intro w hSw
                (try dsimp only at hSw)
                go_simp
                (try with_reducible rfl)
              (try simp only [Act.put, List.setIfInBounds_toArray, List.set_cons_zero, List.set_cons_succ])
              refine wpAnyH_done (by kernel_rfl) ?_ _
              have t0 := TB.out.c0; have t1 := TB.out.c1
              have tl := TB.out.lt
              clear hHeld s0 s1
              go_wp2_with fail
              refine (number_gen P R W _ HPB.out HRW.out).mono ?_
              rintro e w9 ⟨rfl, hb⟩
              replace b0 := cell_keep b0 bl hb
              replace b1 := cell_keep b1 bl hb
              replace b2 := cell_keep b2 bl hb
              replace b3 := cell_keep b3 bl hb
              replace bl := lt_keep bl hb
              replace t0 := cell_keep t0 tl hb; replace t1 := cell_keep t1 tl hb; replace tl := lt_keep tl hb
              replace HO := Lib.hid (HO.out.keep hb)
              replace HB := Lib.hid (HB.out.trans (hb.mono HB.out.size))
              replace hsw := Nat.le_trans hsw hb.size
              clear hb
              rw [HSQ.out]
              go_wp2_with fail
              refine (number_gen P R W _ HPB.out HRW.out).mono ?_
              rintro e w10 ⟨rfl, hb⟩
              replace b0 := cell_keep b0 bl hb
              replace b1 := cell_keep b1 bl hb
              replace b2 := cell_keep b2 bl hb
              replace b3 := cell_keep b3 bl hb
              replace bl := lt_keep bl hb
              replace t0 := cell_keep t0 tl hb; replace t1 := cell_keep t1 tl hb; replace tl := lt_keep tl hb
              replace HO := Lib.hid (HO.out.keep hb)
              replace HB := Lib.hid (HB.out.trans (hb.mono HB.out.size))
              replace hsw := Nat.le_trans hsw hb.size
              clear hb
              rw [HSQ.out]
              clear t0 t1 tl b0 b1 b2 b3 bl
              go_wp2_with (at_builtin; refine wpList_app1 rfl (.tmp 38) (.tmp 43) 33 3 rfl i0 Try.underlying33 HI.out HZ0.out HZ1.out HZ2.out ws.heap.size A' n' c' _ S rfl HO.out rfl (by omega) hsw ?_; intro A3 c3 w5 hown3 hb5)
              have O3 := Lib.hid hown3
              have B3 := Lib.hid (HB.out.trans hb5)
              clear hown3 hb5
              go_wp2
              go_roundw
              case rel => exact ⟨k + 1, n' + 1, c3, A3, by omega, by go_num, rfl, by rw [HE.out]; exact O3.out, B3.out⟩
              case measure => simp [intOf]; omega
          · go_simp
            obtain ⟨wz, hWn⟩ : ∃ W5, W5 = W3.alloc (.cells #[.int .i64 0, .int .i64 0] 59) := ⟨_, rfl⟩
            have hb : Below W3.heap.size W3 wz := by rw [hWn]; exact below_new (Below.refl _ _) _
            obtain ⟨gt, hgp⟩ : ∃ gp, gp = W3.heap.size := ⟨_, rfl⟩
            have HGT := Lib.hid (show gs < gt by rw [hgp]; exact sl)
            have TB := Lib.hid (show SpotBox wz gt 0 0 by rw [hWn, hgp]; exact heap_alloc_new _ _)
            rw [← hWn]
            (try rw [← hgp])
            clear hWn hgp
            replace b0 := cell_keep b0 bl hb
            replace b1 := cell_keep b1 bl hb
            replace b2 := cell_keep b2 bl hb
            replace b3 := cell_keep b3 bl hb
            replace bl := lt_keep bl hb
            replace HO := Lib.hid (HO.out.keep hb)
            replace HB := Lib.hid (HB.out.trans (hb.mono HB.out.size))
            replace hsw := Nat.le_trans hsw hb.size
            replace SB := Lib.hid (SB.out.keep hb)
            replace s0 := cell_keep s0 sl hb
            replace s1 := cell_keep s1 sl hb
            replace sl := lt_keep sl hb
            clear hb
            refine hK.out _ _ ?_ (fun hHeld => ?_)
            · (try dsimp only)
              exact ⟨b0, b1, b2, b3, s0, s1⟩
            clear hK K
            (try simp only [Act.put, List.setIfInBounds_toArray, List.set_cons_zero, List.set_cons_succ])
            refine wpAnyH_ready (rs := [4]) (by kernel_rfl) (by simp) ?_
            refine AllReadyH.cons (o := ⟨_, _, _, _, _, _⟩) rfl (fun K hK => ?_) AllReadyH.nil
            go_simp
            (go_at_call 58; refine (HNU.out _).mono ?_; rintro e wx ⟨rfl, hb⟩; (repeat (first | replace hb := below_undrew hb | replace hb := below_undrewN hb)); replace b0 := cell_keep b0 bl hb; replace b1 := cell_keep b1 bl hb; replace b2 := cell_keep b2 bl hb; replace b3 := cell_keep b3 bl hb; replace bl := lt_keep bl hb; replace HO := Lib.hid (HO.out.keep hb); replace HB := Lib.hid (HB.out.trans (hb.mono HB.out.size)); replace hsw := Nat.le_trans hsw hb.size; replace SB := Lib.hid (SB.out.keep hb); replace s0 := cell_keep s0 sl hb; replace s1 := cell_keep s1 sl hb; replace sl := lt_keep sl hb; replace TB := Lib.hid (TB.out.keep hb); clear hb)
            (try go_wp2_with fail)
            refine hK.out _ _ ?_ (fun hHeld => ?_)
            · (try dsimp only)
              exact ⟨b0, b1, b2, b3, s0, s1⟩
            clear hK K
            (try simp only [Act.put, List.setIfInBounds_toArray, List.set_cons_zero, List.set_cons_succ])
            refine wpAnyH_ready (rs := [6]) (by kernel_rfl) (by simp) ?_
            refine AllReadyH.cons (o := ⟨_, _, _, _, _, _⟩) rfl (fun K hK => ?_) AllReadyH.nil
            go_simp
            (go_at_call 57; refine (HAF.out _).mono ?_; rw [hi]; rintro e wy ⟨rfl, hb⟩; (repeat (first | replace hb := below_undrew hb | replace hb := below_undrewN hb)); replace b0 := cell_keep b0 bl hb; replace b1 := cell_keep b1 bl hb; replace b2 := cell_keep b2 bl hb; replace b3 := cell_keep b3 bl hb; replace bl := lt_keep bl hb; replace HO := Lib.hid (HO.out.keep hb); replace HB := Lib.hid (HB.out.trans (hb.mono HB.out.size)); replace hsw := Nat.le_trans hsw hb.size; replace SB := Lib.hid (SB.out.keep hb); replace s0 := cell_keep s0 sl hb; replace s1 := cell_keep s1 sl hb; replace sl := lt_keep sl hb; replace TB := Lib.hid (TB.out.keep hb); clear hb)
            (try go_wp2_with fail)
            refine hK.out _ _ ?_ (fun hHeld => ?_)
            · (try dsimp only)
              exact ⟨b0, b1, b2, b3, s0, s1⟩
            clear hK K
            (try simp only [Act.put, List.setIfInBounds_toArray, List.set_cons_zero, List.set_cons_succ])
            refine wpAnyH_take (i := 7) (oi := ⟨_, _, _, _, _, _⟩) (v := ?_) rfl (by kernel_rfl) (by kernel_rfl) (by kernel_rfl) (fun _ _ _ h => h) (Or.inl ⟨by rfl, ?_⟩) (by assumption) ?_
            rotate_left
            · intro w hSw
              (try dsimp only at hSw)
              go_simp
              (try with_reducible rfl)
            (try simp only [Act.put, List.setIfInBounds_toArray, List.set_cons_zero, List.set_cons_succ])
            refine wpAnyH_take (i := 8) (oi := ⟨_, _, _, _, _, _⟩) (v := ?_) rfl (by kernel_rfl) (by kernel_rfl) (by kernel_rfl) (fun _ _ _ h => h) (Or.inl ⟨by rfl, ?_⟩) (by assumption) ?_
            rotate_left
            · intro w hSw
              (try dsimp only at hSw)
              go_simp
              (try with_reducible rfl)
            (try simp only [Act.put, List.setIfInBounds_toArray, List.set_cons_zero, List.set_cons_succ])
            refine wpAnyH_take (i := 9) (oi := ⟨_, _, _, _, _, _⟩) (v := ?_) rfl (by kernel_rfl) (by kernel_rfl) (by kernel_rfl) (fun _ _ _ h => h) (Or.inl ⟨by rfl, ?_⟩) (by assumption) ?_
            rotate_left
            · intro w hSw
              (try dsimp only at hSw)
              go_simp
              (try with_reducible rfl)
            (try simp only [Act.put, List.setIfInBounds_toArray, List.set_cons_zero, List.set_cons_succ])
            refine wpAnyH_ready (rs := [11]) (by kernel_rfl) (by simp) ?_
            refine AllReadyH.cons (o := ⟨_, _, _, _, _, _⟩) rfl (fun K hK => ?_) AllReadyH.nil
            have z0 := TB.out.c0; have z1 := TB.out.c1
            have f0 : wy.frozen? ⟨gt, 0, none⟩ = false := frozen_of_row wy _ 0 _ _ TB.out
            have f1 : wy.frozen? ⟨gt, 1, none⟩ = false := frozen_of_row wy _ 1 _ _ TB.out
            go_simp
            obtain ⟨W6, hWn⟩ : ∃ W6, W6 = (wy.setCell ⟨gt, 0, none⟩ (.int .i64 P)).setCell ⟨gt, 1, none⟩ (.int .i64 R) := ⟨_, rfl⟩
            have hgr : wy.grownBy W6 (some gt) := by rw [hWn]; exact grown_next (grownSet _ ⟨gt, 0, none⟩ _) (grownSet _ ⟨gt, 1, none⟩ _)
            have hgne := HGT.out; have hgse := HGS.out; have hbse := HBS.out
            replace HO := Lib.hid (HO.out.other hgr (fun a9 ha9 he => TB.out.apart HO.out a9 ha9 (by injection he)))
            replace TB := Lib.hid (show SpotBox W6 gt P R by rw [hWn]; exact TB.out.set _ _)
            replace HB := Lib.hid (HB.out.grown hgr HB.out.size (fun g9 h9 => by injection h9 with h9; omega))
            replace b0 := hgr.cell b0 (by simp; omega)
            replace b1 := hgr.cell b1 (by simp; omega)
            replace b2 := hgr.cell b2 (by simp; omega)
            replace b3 := hgr.cell b3 (by simp; omega)
            replace s0 := hgr.cell s0 (by simp; omega)
            replace s1 := hgr.cell s1 (by simp; omega)
            replace bl := Nat.lt_of_lt_of_le bl hgr.size
            replace hsw := Nat.le_trans hsw hgr.size
            rw [← hWn]
            clear hWn hgr z0 z1 f0 f1 hgne hgse hbse
            refine hK.out _ _ ?_ (fun hHeld => ?_)
            · (try dsimp only)
              exact ⟨b0, b1, b2, b3, s0, s1⟩
            clear hK K
            (try simp only [Act.put, List.setIfInBounds_toArray, List.set_cons_zero, List.set_cons_succ])
            refine wpAnyH_take (i := 12) (oi := ⟨_, _, _, _, _, _⟩) (v := ?_) rfl (by kernel_rfl) (by kernel_rfl) (by kernel_rfl) (fun _ _ _ h => h) (Or.inl ⟨by rfl, ?_⟩) (by assumption) ?_
            rotate_left
            · intro w hSw
              (try dsimp only at hSw)
              go_simp
              (try with_reducible rfl)
            (try simp only [Act.put, List.setIfInBounds_toArray, List.set_cons_zero, List.set_cons_succ])
            refine wpAnyH_done (by kernel_rfl) ?_ _
            have t0 := TB.out.c0; have t1 := TB.out.c1
            have tl := TB.out.lt
            clear hHeld s0 s1
            go_wp2_with fail
            refine (number_gen P R W _ HPB.out HRW.out).mono ?_
            rintro e w9 ⟨rfl, hb⟩
            replace b0 := cell_keep b0 bl hb
            replace b1 := cell_keep b1 bl hb
            replace b2 := cell_keep b2 bl hb
            replace b3 := cell_keep b3 bl hb
            replace bl := lt_keep bl hb
            replace t0 := cell_keep t0 tl hb; replace t1 := cell_keep t1 tl hb; replace tl := lt_keep tl hb
            replace HO := Lib.hid (HO.out.keep hb)
            replace HB := Lib.hid (HB.out.trans (hb.mono HB.out.size))
            replace hsw := Nat.le_trans hsw hb.size
            clear hb
            rw [HSQ.out]
            go_wp2_with fail
            refine (number_gen P R W _ HPB.out HRW.out).mono ?_
            rintro e w10 ⟨rfl, hb⟩
            replace b0 := cell_keep b0 bl hb
            replace b1 := cell_keep b1 bl hb
            replace b2 := cell_keep b2 bl hb
            replace b3 := cell_keep b3 bl hb
            replace bl := lt_keep bl hb
            replace t0 := cell_keep t0 tl hb; replace t1 := cell_keep t1 tl hb; replace tl := lt_keep tl hb
            replace HO := Lib.hid (HO.out.keep hb)
            replace HB := Lib.hid (HB.out.trans (hb.mono HB.out.size))
            replace hsw := Nat.le_trans hsw hb.size
            clear hb
            rw [HSQ.out]
            clear t0 t1 tl b0 b1 b2 b3 bl
            go_wp2_with (at_builtin; refine wpList_app1 rfl (.tmp 38) (.tmp 43) 33 3 rfl i0 Try.underlying33 HI.out HZ0.out HZ1.out HZ2.out ws.heap.size A' n' c' _ S rfl HO.out rfl (by omega) hsw ?_; intro A3 c3 w5 hown3 hb5)
            have O3 := Lib.hid hown3
            have B3 := Lib.hid (HB.out.trans hb5)
            clear hown3 hb5
            go_wp2
            go_roundw
            case rel => exact ⟨k + 1, n' + 1, c3, A3, by omega, by go_num, rfl, by rw [HE.out]; exact O3.out, B3.out⟩
            case measure => simp [intOf]; omega
    · have e : k = n1 := by omega
      subst e
      rw [List.take_of_length_le (by have := SL.out; omega)] at hown
      have HO := Lib.hid hown; have HB := Lib.hid hbw
      have hn8 : n' ≤ 8 := by have h1 := hown.len; have h2 := endsA_len (W := W) (H := H) (q := q) (ac := ac) (up := up) (l := stepsL a b); have := SL.out; omega
      have hsw := hbw.size
      clear hown hbw a0 a1 a2 a3 al
      go_wp2_with fail
      refine (sortI_any ws.heap.size A' n' c' _ wr HO.out (by omega) hsw).mono ?_
      rintro e wv ⟨rfl, ⟨ys, hys, hperm, hsort⟩, hb⟩
      have HY := Lib.hid hys; have HB2 := Lib.hid (HB.out.trans hb)
      have HC := Lib.hid (comp_ends hperm hsort)
      clear hys hb hperm hsort HB HO
      go_wp2_with fail
      refine (compactI_any ws.heap.size A' n' c' ys wv HY.out (by omega) HB2.out.size).mono ?_
      rintro e wz ⟨m2, rfl, hown, hb⟩
      rw [show Lib.compact ys = leapsA W H ac up a b q from HC.out] at hown
      have HO := Lib.hid (hown.lower B.out.size); have HB := Lib.hid (B.out.trans ((HB2.out.trans hb).mono B.out.size))
      clear hown hb HB2 HY
      go_wp2
      go_ret
      exact ⟨A', m2, c', rfl, HO.out, HB.out⟩

end Go.Proofs.Ytaliknhfcdmohaa

namespace Go.Proofs.Ytaliknhfcdmohaa
open Go.RowKit

def twoA (W H a b : Int) : Bool := leaperB a b && goodA W H
def okLA (W H a b q : Int) : Bool := leaperB a b && cellA W H q
def leapsAV (W H : Int) (ac up : Bool) (a b q : Int) : List Int := if okLA W H a b q then leapsA W H ac up a b q else []
theorem okLA_iff {W H a b q : Int} : okLA W H a b q = true ↔ leaperB a b = true ∧ goodA W H = true ∧ 0 ≤ q ∧ q < W * H := by rw [okLA, Bool.and_eq_true, cellA_iff]
theorem twoA_iff {W H a b : Int} : twoA W H a b = true ↔ leaperB a b = true ∧ goodA W H = true := by rw [twoA, Bool.and_eq_true]
theorem leapsAV_no {W H a b q : Int} {ac up : Bool} (h : okLA W H a b q = false) : leapsAV W H ac up a b q = [] := by rw [leapsAV, h]; rfl
theorem len_LeapsAround (W H : Int) (ac up : Bool) (a b q : Int) : (leapsAV W H ac up a b q).length ≤ 1000000 := by
  unfold leapsAV; split
  · rename_i h; have := leapsA_len (W := W) (H := H) (q := q) (ac := ac) (up := up) (okLA_iff.1 h).1; omega
  · simp

set_option maxRecDepth 100000 in
set_option maxHeartbeats 1000000 in
theorem arTwo_any (W H : Int) (ac up : Bool) (a b : Int) (w : World) :
    Calls Try.prog 60 #[ard W H ac up, lpr a b] w fun e w' => e = .returned (.bool (twoA W H a b)) ∧ Below w.heap.size w w' := by
  obtain ⟨W2, hW2⟩ : ∃ W2, W2 = (w.alloc (.cells #[.int .i64 W, .int .i64 H, .bool ac, .bool up] 25)).alloc (.cells #[.int .i64 a, .int .i64 b] 36) := ⟨_, rfl⟩
  have hsz : W2.heap.size = w.heap.size + 2 := by rw [hW2]; simp
  have a0 : W2.cell? ⟨w.heap.size, 0, none⟩ = some (.int .i64 W) := by rw [hW2]; go_simp
  have a1 : W2.cell? ⟨w.heap.size, 1, none⟩ = some (.int .i64 H) := by rw [hW2]; go_simp
  have a2 : W2.cell? ⟨w.heap.size, 2, none⟩ = some (.bool ac) := by rw [hW2]; go_simp
  have a3 : W2.cell? ⟨w.heap.size, 3, none⟩ = some (.bool up) := by rw [hW2]; go_simp
  have al : w.heap.size < W2.heap.size := by omega
  have l0 : W2.cell? ⟨w.heap.size + 1, 0, none⟩ = some (.int .i64 a) := by rw [hW2]; go_simp
  have l1 : W2.cell? ⟨w.heap.size + 1, 1, none⟩ = some (.int .i64 b) := by rw [hW2]; go_simp
  have ll : w.heap.size + 1 < W2.heap.size := by omega
  have B := Lib.hid (show Below w.heap.size w W2 by rw [hW2]; repeat (first | exact Below.refl _ _ | refine below_new ?_ _))
  cases hg : goodA W H
  · go_enter Try.func60, Try.ntmps60
    go_wp2_with fail
    rw [← hW2]
    clear hW2
    refine (arGood_any _ _ _ _ _).mono ?_
    rw [hg]
    rintro e wv ⟨rfl, hb⟩
    replace a0 := cell_keep a0 al hb
    replace a1 := cell_keep a1 al hb
    replace a2 := cell_keep a2 al hb
    replace a3 := cell_keep a3 al hb
    replace al := lt_keep al hb
    replace l0 := cell_keep l0 ll hb
    replace l1 := cell_keep l1 ll hb
    replace ll := lt_keep ll hb
    replace B := Lib.hid (below_next B.out hb)
    clear hb
    clear a0 a1 a2 a3 l0 l1 al ll
    go_wp2
    go_ret
    exact ⟨ret_bool (by rw [twoA, hg]; simp), B.out⟩
  · go_enter Try.func60, Try.ntmps60
    go_wp2_with fail
    rw [← hW2]
    clear hW2
    refine (arGood_any _ _ _ _ _).mono ?_
    rw [hg]
    rintro e wv ⟨rfl, hb⟩
    replace a0 := cell_keep a0 al hb
    replace a1 := cell_keep a1 al hb
    replace a2 := cell_keep a2 al hb
    replace a3 := cell_keep a3 al hb
    replace al := lt_keep al hb
    replace l0 := cell_keep l0 ll hb
    replace l1 := cell_keep l1 ll hb
    replace ll := lt_keep ll hb
    replace B := Lib.hid (below_next B.out hb)
    clear hb
    go_wp2_with fail
    refine (boLeaper_any _ _ _).mono ?_
    rintro e w9 ⟨rfl, hb⟩
    replace B := Lib.hid (below_next B.out hb)
    clear hb
    clear a0 a1 a2 a3 l0 l1 al ll
    go_wp2
    go_ret
    exact ⟨ret_bool (by rw [twoA, hg]; simp), B.out⟩

set_option maxRecDepth 100000 in
set_option maxHeartbeats 1000000 in
theorem spec_LeapsAround (W H : Int) (ac up : Bool) (a b q : Int) (w : World) :
    Calls Try.prog 22 #[ard W H ac up, lpr a b, .int .i64 q] w fun e w' => ∃ A' n' c', e = .returned (.tuple #[.slice A' n' c', .bool (okLA W H a b q)]) ∧ OwnI 3 w' w.heap.size A' n' c' (leapsAV W H ac up a b q) ∧ Below w.heap.size w w' := by
  obtain ⟨W2, hW2⟩ : ∃ W2, W2 = (w.alloc (.cells #[.int .i64 W, .int .i64 H, .bool ac, .bool up] 25)).alloc (.cells #[.int .i64 a, .int .i64 b] 36) := ⟨_, rfl⟩
  have hsz : W2.heap.size = w.heap.size + 2 := by rw [hW2]; simp
  have a0 : W2.cell? ⟨w.heap.size, 0, none⟩ = some (.int .i64 W) := by rw [hW2]; go_simp
  have a1 : W2.cell? ⟨w.heap.size, 1, none⟩ = some (.int .i64 H) := by rw [hW2]; go_simp
  have a2 : W2.cell? ⟨w.heap.size, 2, none⟩ = some (.bool ac) := by rw [hW2]; go_simp
  have a3 : W2.cell? ⟨w.heap.size, 3, none⟩ = some (.bool up) := by rw [hW2]; go_simp
  have al : w.heap.size < W2.heap.size := by omega
  have l0 : W2.cell? ⟨w.heap.size + 1, 0, none⟩ = some (.int .i64 a) := by rw [hW2]; go_simp
  have l1 : W2.cell? ⟨w.heap.size + 1, 1, none⟩ = some (.int .i64 b) := by rw [hW2]; go_simp
  have ll : w.heap.size + 1 < W2.heap.size := by omega
  have B := Lib.hid (show Below w.heap.size w W2 by rw [hW2]; repeat (first | exact Below.refl _ _ | refine below_new ?_ _))
  cases ht : twoA W H a b
  · have OK := Lib.hid (show okLA W H a b q = false by rw [Bool.eq_false_iff]; intro h; rw [okLA_iff] at h; rw [twoA_iff.2 ⟨h.1, h.2.1⟩] at ht; cases ht)
    go_enter Try.func22, Try.ntmps22
    go_wp2_with fail
    rw [← hW2]
    clear hW2
    refine (arTwo_any _ _ _ _ _ _ _).mono ?_
    rw [ht]
    rintro e wv ⟨rfl, hb⟩
    replace a0 := cell_keep a0 al hb
    replace a1 := cell_keep a1 al hb
    replace a2 := cell_keep a2 al hb
    replace a3 := cell_keep a3 al hb
    replace al := lt_keep al hb
    replace l0 := cell_keep l0 ll hb
    replace l1 := cell_keep l1 ll hb
    replace ll := lt_keep ll hb
    replace B := Lib.hid (below_next B.out hb)
    clear hb
    clear a0 a1 a2 a3 l0 l1 al ll
    go_wp2
    go_ret2
    exact ⟨none, 0, 0, by first | (rw [OK.out]; rfl) | rfl, by rw [leapsAV_no OK.out]; exact OwnI.none_ _ _ _, B.out⟩
  cases hq : cellA W H q
  · have OK := Lib.hid (show okLA W H a b q = false by rw [okLA, hq, Bool.and_false])
    go_enter Try.func22, Try.ntmps22
    go_wp2_with fail
    rw [← hW2]
    clear hW2
    refine (arTwo_any _ _ _ _ _ _ _).mono ?_
    rw [ht]
    rintro e wv ⟨rfl, hb⟩
    replace a0 := cell_keep a0 al hb
    replace a1 := cell_keep a1 al hb
    replace a2 := cell_keep a2 al hb
    replace a3 := cell_keep a3 al hb
    replace al := lt_keep al hb
    replace l0 := cell_keep l0 ll hb
    replace l1 := cell_keep l1 ll hb
    replace ll := lt_keep ll hb
    replace B := Lib.hid (below_next B.out hb)
    clear hb
    go_wp2_with fail
    refine (arCell_any _ _ _ _ _ _).mono ?_
    rw [hq]
    rintro e wv ⟨rfl, hb⟩
    replace a0 := cell_keep a0 al hb
    replace a1 := cell_keep a1 al hb
    replace a2 := cell_keep a2 al hb
    replace a3 := cell_keep a3 al hb
    replace al := lt_keep al hb
    replace l0 := cell_keep l0 ll hb
    replace l1 := cell_keep l1 ll hb
    replace ll := lt_keep ll hb
    replace B := Lib.hid (below_next B.out hb)
    clear hb
    clear a0 a1 a2 a3 l0 l1 al ll
    go_wp2
    go_ret2
    exact ⟨none, 0, 0, by first | (rw [OK.out]; rfl) | rfl, by rw [leapsAV_no OK.out]; exact OwnI.none_ _ _ _, B.out⟩
  · have HT := Lib.hid (twoA_iff.1 ht); have HC := Lib.hid (cellA_iff.1 hq)
    have OK := Lib.hid (show okLA W H a b q = true by rw [okLA, HT.out.1, hq]; rfl)
    go_enter Try.func22, Try.ntmps22
    go_wp2_with fail
    rw [← hW2]
    clear hW2
    refine (arTwo_any _ _ _ _ _ _ _).mono ?_
    rw [ht]
    rintro e wv ⟨rfl, hb⟩
    replace a0 := cell_keep a0 al hb
    replace a1 := cell_keep a1 al hb
    replace a2 := cell_keep a2 al hb
    replace a3 := cell_keep a3 al hb
    replace al := lt_keep al hb
    replace l0 := cell_keep l0 ll hb
    replace l1 := cell_keep l1 ll hb
    replace ll := lt_keep ll hb
    replace B := Lib.hid (below_next B.out hb)
    clear hb
    go_wp2_with fail
    refine (arCell_any _ _ _ _ _ _).mono ?_
    rw [hq]
    rintro e wv ⟨rfl, hb⟩
    replace a0 := cell_keep a0 al hb
    replace a1 := cell_keep a1 al hb
    replace a2 := cell_keep a2 al hb
    replace a3 := cell_keep a3 al hb
    replace al := lt_keep al hb
    replace l0 := cell_keep l0 ll hb
    replace l1 := cell_keep l1 ll hb
    replace ll := lt_keep ll hb
    replace B := Lib.hid (below_next B.out hb)
    clear hb
    go_wp2_with fail
    refine (arLeaps_any W H ac up a b q _ HT.out.2 HT.out.1 HC.out.2).mono ?_
    rintro e wx ⟨A', n', c', rfl, hown, hb⟩
    have O := Lib.hid (hown.lower B.out.size)
    replace B := Lib.hid (below_next B.out hb)
    clear hown hb
    clear a0 a1 a2 a3 l0 l1 al ll
    go_wp2
    go_ret2
    exact ⟨A', n', c', by first | (rw [OK.out]; rfl) | rfl, by rw [leapsAV, OK.out]; exact O.out, B.out⟩

set_option maxRecDepth 100000 in
set_option maxHeartbeats 1000000 in
theorem impl_LeapsAround (W H : Int) (ac up : Bool) (a b q : Int) (w : World) :
    Calls Try.prog 24 #[ard W H ac up, lpr a b, .int .i64 q] w fun e w' => ∃ A' n' c', e = .returned (.tuple #[.slice A' n' c', .bool (okLA W H a b q)]) ∧ OwnI 3 w' w.heap.size A' n' c' (leapsAV W H ac up a b q) ∧ Below w.heap.size w w' := by
  obtain ⟨W2, hW2⟩ : ∃ W2, W2 = ((w.alloc (.cells #[.int .i64 W, .int .i64 H, .bool ac, .bool up] 25)).alloc (.cells #[.int .i64 a, .int .i64 b] 36)).alloc (.cells #[.int .i64 q] 3) := ⟨_, rfl⟩
  have hsz : W2.heap.size = w.heap.size + 3 := by rw [hW2]; simp
  have a0 : W2.cell? ⟨w.heap.size, 0, none⟩ = some (.int .i64 W) := by rw [hW2]; go_simp
  have a1 : W2.cell? ⟨w.heap.size, 1, none⟩ = some (.int .i64 H) := by rw [hW2]; go_simp
  have a2 : W2.cell? ⟨w.heap.size, 2, none⟩ = some (.bool ac) := by rw [hW2]; go_simp
  have a3 : W2.cell? ⟨w.heap.size, 3, none⟩ = some (.bool up) := by rw [hW2]; go_simp
  have al : w.heap.size < W2.heap.size := by omega
  have l0 : W2.cell? ⟨w.heap.size + 1, 0, none⟩ = some (.int .i64 a) := by rw [hW2]; go_simp
  have l1 : W2.cell? ⟨w.heap.size + 1, 1, none⟩ = some (.int .i64 b) := by rw [hW2]; go_simp
  have ll : w.heap.size + 1 < W2.heap.size := by omega
  have q0 : W2.cell? ⟨w.heap.size + 1 + 1, 0, none⟩ = some (.int .i64 q) := by rw [hW2]; go_simp
  have ql : w.heap.size + 1 + 1 < W2.heap.size := by omega
  have B := Lib.hid (show Below w.heap.size w W2 by rw [hW2]; repeat (first | exact Below.refl _ _ | refine below_new ?_ _))
  have RQ := Lib.hid (show Rd W2 (some ⟨w.heap.size + 1 + 1, 0, none⟩) 1 [q] from ⟨rfl, by omega, fun k hk => by
    obtain rfl : k = 0 := by omega
    exact ⟨_, 0, _, rfl, by omega, rfl, q0⟩⟩)
  clear q0 ql hsz
  have HE := Lib.hid (show (leaperB a b && aroundB W H [q]) = okLA W H a b q by rw [aroundB_one]; rfl)
  cases hq : okLA W H a b q
  · have OK := Lib.hid hq
    go_enter Try.func24, Try.ntmps24
    go_wp2_with fail
    rw [← hW2]
    clear hW2
    refine (isLeaperAround_any W H ac up a b _ 1 1 [q] _ RQ.out).mono ?_
    rw [HE.out, hq]
    rintro e wv ⟨rfl, hb⟩
    replace a0 := cell_keep a0 al hb
    replace a1 := cell_keep a1 al hb
    replace a2 := cell_keep a2 al hb
    replace a3 := cell_keep a3 al hb
    replace al := lt_keep al hb
    replace l0 := cell_keep l0 ll hb
    replace l1 := cell_keep l1 ll hb
    replace ll := lt_keep ll hb
    replace B := Lib.hid (below_next B.out hb)
    clear hb
    clear RQ HE
    clear a0 a1 a2 a3 l0 l1 al ll
    go_wp2
    go_ret2
    exact ⟨none, 0, 0, by first | (rw [OK.out]; rfl) | rfl, by rw [leapsAV_no OK.out]; exact OwnI.none_ _ _ _, B.out⟩
  · have OK := Lib.hid hq
    have HC := Lib.hid (okLA_iff.1 hq)
    go_enter Try.func24, Try.ntmps24
    go_wp2_with fail
    rw [← hW2]
    clear hW2
    refine (isLeaperAround_any W H ac up a b _ 1 1 [q] _ RQ.out).mono ?_
    rw [HE.out, hq]
    rintro e wv ⟨rfl, hb⟩
    replace a0 := cell_keep a0 al hb
    replace a1 := cell_keep a1 al hb
    replace a2 := cell_keep a2 al hb
    replace a3 := cell_keep a3 al hb
    replace al := lt_keep al hb
    replace l0 := cell_keep l0 ll hb
    replace l1 := cell_keep l1 ll hb
    replace ll := lt_keep ll hb
    replace B := Lib.hid (below_next B.out hb)
    clear hb
    clear RQ HE
    go_wp2_with fail
    refine (leapsAround_any W H ac up a b q _ HC.out.2.1 HC.out.1 HC.out.2.2).mono ?_
    rintro e wx ⟨A', n', c', rfl, hown, hb⟩
    have O := Lib.hid (hown.lower B.out.size)
    replace B := Lib.hid (below_next B.out hb)
    clear hown hb
    clear a0 a1 a2 a3 l0 l1 al ll
    go_wp2
    go_ret2
    exact ⟨A', n', c', by first | (rw [OK.out]; rfl) | rfl, by rw [leapsAV, OK.out]; exact O.out, B.out⟩

end Go.Proofs.Ytaliknhfcdmohaa

namespace Go.Proofs.Ytaliknhfcdmohaa
open Go.RowKit

theorem visit_prefix {d : Int} {k : Nat} {x : Int} : ∀ (l far q : List Int), q[k]? = some x → (visit d l (far, q)).2[k]? = some x
  | [], _, _, h => h
  | y :: t, far, q, h => by
    rw [visit]
    split
    · exact visit_prefix t _ _ (by
        have : k < q.length := (List.getElem?_eq_some_iff.1 h).1
        rw [List.getElem?_append_left this]; exact h)
    · exact visit_prefix t _ _ h
theorem minus_setN {N k : Nat} (h : k < N) : (List.replicate k (-1 : Int) ++ List.replicate (N - k) 0).set k (-1) = List.replicate (k + 1) (-1) ++ List.replicate (N - (k + 1)) 0 := by
  rw [List.set_append_right _ _ (by simp), List.length_replicate, Nat.sub_self]
  obtain ⟨m, hm⟩ : ∃ m, N - k = m + 1 := ⟨N - k - 1, by omega⟩
  rw [hm, List.replicate_succ, List.set_cons_zero, show N - (k + 1) = m by omega, show k + 1 = k + 1 from rfl, List.replicate_succ', List.append_assoc]
  rfl
theorem leapsA_in {W H a b x y : Int} {ac up : Bool} {N : Nat} (hN : W * H = (N : Int)) (h : y ∈ leapsA W H ac up a b x) : 0 ≤ y ∧ y < N := by
  have h2 := (List.mem_filter.1 h).1
  rw [upTo_mem] at h2
  omega

set_option maxRecDepth 100000 in
set_option maxHeartbeats 4000000 in
theorem arFrom_any (W H : Int) (ac up : Bool) (a b : Int) (s N : Nat) (w : World) (hg : goodA W H = true) (hl : leaperB a b = true) (hWH : W * H = (N : Int)) (hs : s < N) :
    Calls Try.prog 66 #[ard W H ac up, lpr a b, .int .i64 (s : Int)] w fun e w' => ∃ g, e = .returned (.slice (some ⟨g, 0, none⟩) N N) ∧ OwnI 3 w' w.heap.size (some ⟨g, 0, none⟩) N N (farL (leapsA W H ac up a b) N s) ∧ Below w.heap.size w w' := by
  have HWH := Lib.hid hWH
  have HOK := Lib.hid (fun k => bfs_ok (adj := leapsA W H ac up a b) (N := N) (start := (s : Int)) (by omega) (fun c _ x hx => leapsA_in hWH hx) k)
  have hN64 : N ≤ 144 := by have := areaA hg; omega
  have hs0 : (0 : Int) ≤ (s : Int) := by omega
  have hs1 : (s : Int) < (N : Int) := by omega
  have hN0 : (0 : Int) ≤ (N : Int) := by omega
  have HN := Lib.hid (areaA hg); have HL := Lib.hid hl
  have HG := Lib.hid hg
  obtain ⟨i0, hi, hz0, hz1, hz2⟩ := info_parts infoI
  have HI := Lib.hid hi; have HZ0 := Lib.hid hz0; have HZ1 := Lib.hid hz1; have HZ2 := Lib.hid hz2
  clear hg hl hi hz0 hz1 hz2
  obtain ⟨W2, hW2⟩ : ∃ W2, W2 = (w.alloc (.cells #[.int .i64 W, .int .i64 H, .bool ac, .bool up] 25)).alloc (.cells #[.int .i64 a, .int .i64 b] 36) := ⟨_, rfl⟩
  have a0 : W2.cell? ⟨w.heap.size, 0, none⟩ = some (.int .i64 W) := by rw [hW2]; go_simp
  have a1 : W2.cell? ⟨w.heap.size, 1, none⟩ = some (.int .i64 H) := by rw [hW2]; go_simp
  have a2 : W2.cell? ⟨w.heap.size, 2, none⟩ = some (.bool ac) := by rw [hW2]; go_simp
  have a3 : W2.cell? ⟨w.heap.size, 3, none⟩ = some (.bool up) := by rw [hW2]; go_simp
  have l0 : W2.cell? ⟨w.heap.size + 1, 0, none⟩ = some (.int .i64 a) := by rw [hW2]; go_simp
  have l1 : W2.cell? ⟨w.heap.size + 1, 1, none⟩ = some (.int .i64 b) := by rw [hW2]; go_simp
  have hsz : w.heap.size + 2 ≤ W2.heap.size := by rw [hW2]; simp
  have B := Lib.hid (show Below w.heap.size w W2 by rw [hW2]; exact below_new (below_new (Below.refl _ _) _) _)
  have ga : w.heap.size < W2.heap.size := by omega
  have gl : w.heap.size + 1 < W2.heap.size := by omega
  go_enter Try.func66, Try.ntmps66
  go_wp2_with (at_make; refine wpList_make_full _ rfl _ _ 33 rfl w.heap.size 3 i0 (.int .i64 0) 1 Try.underlying33 HI.out HZ0.out HZ1.out .i64 .i64 _ _ N rfl rfl rfl rfl (by rw [HZ2.out]; omega) (by unfold maxLen; omega) (by simp; omega) ?_; intro w1 hown1 hg1)
  rw [← hW2] at hown1 hg1
  have hW2s : W2.heap.size = w.heap.size + 2 := by rw [hW2]; simp
  have hO1 : OwnI 3 w1 w.heap.size (some ⟨w.heap.size + 1 + 1, 0, none⟩) N N (List.replicate N 0) := by
    unfold OwnI
    rw [show N * 1 = N from by omega, hW2s] at hown1
    have e : (madeCells (Value.cells (.int .i64 0)) N).toList = List.replicate N (.int .i64 0) := toList_madeCells_one (.int .i64 0) N
    rw [e] at hown1
    simpa using hown1
  obtain ⟨fb, hfb⟩ : ∃ fb, fb = w.heap.size + 1 + 1 := ⟨_, rfl⟩
  rw [← hfb] at hO1 ⊢
  have hb1 : Below W2.heap.size W2 w1 := below_of_grown hg1 (Nat.le_refl _) (by simp)
  have hfb1 : W2.heap.size ≤ fb := by omega
  have hfb2 : fb < w1.heap.size := by rcases hO1.some_ (k := 0) (by omega) with ⟨g9, h9, _, h8⟩; injection h9 with h9; injection h9 with h9; omega
  have FAR := Lib.hid hO1; have B1 := Lib.hid hb1
  have hlow : w.heap.size + 2 ≤ W2.heap.size := by omega
  have hs1z := hb1.size
  clear hW2 hfb hown1 hg1 hO1 hb1 hsz hW2s hWH
  go_loopw [21] (fun i wr => ∃ k : Nat, k ≤ N ∧ i = .int .i64 k ∧ OwnI 3 wr w.heap.size (some ⟨fb, 0, none⟩) N N (List.replicate k (-1) ++ List.replicate (N - k) 0) ∧ w1.grownBy wr (some fb)) (fun i _ => N - (intOf i).toNat)
  case atStart => exact ⟨0, by omega, rfl, by simpa using FAR.out, grown_refl _ _⟩
  case round =>
    obtain ⟨k, hk, rfl, hown, hgw⟩ := hrel
    by_cases hlt : k < N
    · have hx : (List.replicate k (-1 : Int) ++ List.replicate (N - k) 0)[k]? = some 0 := by
        rw [List.getElem?_append_right (by simp), List.length_replicate, Nat.sub_self, List.getElem?_replicate, if_pos (by omega)]
      have c0 := hown.cell hx
      have f0 := hown.frozen k
      have hi0 : (0 : Int) ≤ (k : Int) := by omega
      have hi1 : (k : Int) < (N : Int) := by omega
      obtain ⟨o1, g1⟩ := hown.stored k (-1)
      rw [minus_setN hlt] at o1
      have O1 := Lib.hid o1; have G1 := Lib.hid (grown_next hgw g1)
      clear o1 g1 hgw hown hx
      go_wp2
      go_roundw
      case rel => exact ⟨k + 1, by omega, by go_num, O1.out, G1.out⟩
      case measure => simp [intOf]; omega
    · obtain rfl : N = k := by omega
      have hown2 : OwnI 3 wr w.heap.size (some ⟨fb, 0, none⟩) N N (List.replicate N (-1)) := by simpa using hown
      have hx : (List.replicate N (-1 : Int))[s]? = some (-1) := by rw [List.getElem?_replicate, if_pos hs]
      have c0 := hown2.cell hx
      have f0 := hown2.frozen s
      obtain ⟨o1, g1⟩ := hown2.stored s 0
      have hg2 := grown_next hgw g1
      have B2 := Lib.hid (B1.out.trans (below_of_grown hg2 (by omega) (fun g h => by injection h with h; omega)))
      have hszw := hgw.size
      have O1 := Lib.hid o1
      clear o1 g1 hgw hown hown2 hx hg2
      go_wp2
      have hqrow : OwnI 3 ((wr.setCell ⟨fb, s, none⟩ (.int .i64 0)).alloc (.cells #[.int .i64 (s : Int)] 3)) w.heap.size (some ⟨wr.heap.size, 0, none⟩) 1 1 [(s : Int)] := by
        have h := World.ownsRow_lit (base := w.heap.size) (e := 3) (wr.setCell ⟨fb, s, none⟩ (.int .i64 0)) (#[.int .i64 (s : Int)] : Array Value) 1 (size := 1) (by simp; omega) (by decide) rfl
        rw [size_setCell'] at h
        exact h
      have Q4 := Lib.hid hqrow
      have F4 := Lib.hid (O1.out.alloc (.cells #[.int .i64 (s : Int)] 3))
      have B4 : Hid (Below W2.heap.size W2 ((wr.setCell ⟨fb, s, none⟩ (.int .i64 0)).alloc (.cells #[.int .i64 (s : Int)] 3))) := Lib.hid (B2.out.alloc (by simp; omega) _)
      generalize (wr.setCell ⟨fb, s, none⟩ (.int .i64 0)).alloc (.cells #[.int .i64 (s : Int)] 3) = W4 at *
      have hqf : wr.heap.size ≠ fb := by omega
      have hq2 : W2.heap.size ≤ wr.heap.size := by omega
      clear hqrow O1 B2 c0 f0 FAR B1
      generalize wr.heap.size = gq0 at *
      have Q5 := Lib.hid (QAt.start Q4.out)
      clear Q4
      go_loopg [9, 10] 144 (fun gm s9 s10 wr => ∃ (k g k0 n2 c2 : Nat), k ≤ n2 ∧ n2 = (bfsTo (leapsA W H ac up a b) N s k).2.length ∧ 144 - k ≤ gm ∧ s10 = .int .i64 k ∧ s9 = .slice (some ⟨g, k0, none⟩) n2 c2 ∧ QAt 3 wr w.heap.size g k0 n2 c2 (bfsTo (leapsA W H ac up a b) N s k).2 ∧ OwnI 3 wr w.heap.size (some ⟨fb, 0, none⟩) N N (bfsTo (leapsA W H ac up a b) N s k).1 ∧ g ≠ fb ∧ W2.heap.size ≤ g ∧ Below W2.heap.size W2 wr)
      case atStart => exact ⟨0, _, 0, 1, 1, by omega, rfl, by omega, rfl, rfl, Q5.out, by simpa [bfsTo] using F4.out, hqf, hq2, B4.out⟩
      case round =>
        clear Q5 F4 B4 hqf hq2
        obtain ⟨k, g, k0, n2, c2, hk2, hn2, hgm, rfl, rfl, hq, hfar, hgf, hg2, hbw⟩ := hrel
        have hQ64 := nodup_len (HOK.out k).nodup (HOK.out k).range
        have hqle := hq.le
        have HN2 := Lib.hid hn2
        by_cases hkn : k < n2
        · obtain ⟨x, hx⟩ : ∃ x, (bfsTo (leapsA W H ac up a b) N s k).2[k]? = some x := ⟨_, List.getElem?_eq_getElem (show k < (bfsTo (leapsA W H ac up a b) N s k).2.length by omega)⟩
          have hxr := (HOK.out k).range _ (List.mem_of_getElem? hx)
          obtain ⟨xn, rfl⟩ : ∃ xn : Nat, x = (xn : Int) := ⟨x.toNat, by omega⟩
          have hxn : xn < N := by omega
          have hx0 : (0 : Int) ≤ (xn : Int) := by omega
          have hx1 : (xn : Int) < (N : Int) := by omega
          obtain ⟨d, hd1, hd2, hd3, hd4⟩ := (HOK.out k).at_ hxn
          have hd0 : 0 ≤ d := by have := (HOK.out k).seen _ (List.mem_of_getElem? hx); rw [Int.toNat_natCast, hd2] at this; exact this
          have hd5 : d ≤ 144 := by omega
          have DD := Lib.hid hd2
          have cq0 := hq.cell hx
          have gqlt := hq.lt.2
          have gqlt0 := hq.lt.2
          have hk64 : k < 144 := by omega
          have X0 := Lib.hid hx
          have FK := Lib.hid hfar; have QK := Lib.hid hq; have BK := Lib.hid hbw
          replace a0 := cell_keep a0 ga hbw; replace a1 := cell_keep a1 ga hbw; replace a2 := cell_keep a2 ga hbw; replace a3 := cell_keep a3 ga hbw; replace l0 := cell_keep l0 gl hbw; replace l1 := cell_keep l1 gl hbw
          have ga := lt_keep ga hbw; have gl := lt_keep gl hbw
          have hk0 : (0 : Int) ≤ (k : Int) := by omega
          have hk1 : (k : Int) < (n2 : Int) := by omega
          have hgfb : fb < wr.heap.size := by rcases hfar.some_ (k := 0) (by omega) with ⟨g9, h9, _, h8⟩; injection h9 with h9; injection h9 with h9; omega
          clear hx hxr hd1 hd2 hfar hq hbw hn2
          go_wp2
          go_region_held3 (fun w' => w'.cell? ⟨w.heap.size, 0, none⟩ = some (.int .i64 W) ∧ w'.cell? ⟨w.heap.size, 1, none⟩ = some (.int .i64 H) ∧ w'.cell? ⟨w.heap.size, 2, none⟩ = some (.bool ac) ∧ w'.cell? ⟨w.heap.size, 3, none⟩ = some (.bool up) ∧ w'.cell? ⟨w.heap.size + 1, 0, none⟩ = some (.int .i64 a) ∧ w'.cell? ⟨w.heap.size + 1, 1, none⟩ = some (.int .i64 b) ∧ w'.cell? ⟨g, k0 + k, none⟩ = some (.int .i64 (xn : Int))) (first | exact ⟨a0, a1, a2, a3, l0, l1, cq0⟩)
            (first
              | (go_at_call 61; refine (arLeaps_any W H ac up a b (xn : Int) _ ?_ ?_ ?_).mono ?_; (exact HG.out); (exact HL.out); (exact ⟨hx0, by rw [HWH.out]; exact hx1⟩); rintro e wv ⟨A3, n3, c3, rfl, hl3, hb⟩; (repeat (first | replace hb := below_undrew hb | replace hb := below_undrewN hb)); replace a0 := cell_keep a0 ga hb; replace a1 := cell_keep a1 ga hb; replace a2 := cell_keep a2 ga hb; replace a3 := cell_keep a3 ga hb; replace l0 := cell_keep l0 gl hb; replace l1 := cell_keep l1 gl hb; replace cq0 := cell_keep cq0 gqlt hb; replace ga := lt_keep ga hb; replace gl := lt_keep gl hb; replace gqlt := lt_keep gqlt hb; replace FK := Lib.hid (FK.out.keep hb); replace QK := Lib.hid (QK.out.keep hb); replace BK := Lib.hid (BK.out.trans (hb.mono BK.out.size)); have hbz := hb.size))
          have ROW := Lib.hid hl3.rd
          have ROWB : Hid (∀ y, A3 = some y → y.block ≠ g ∧ y.block ≠ fb ∧ y.block < wv.heap.size) := Lib.hid (fun y hy => by
            rcases hl3.form with ⟨h, _⟩ | ⟨g9, h, h2, h3, _⟩
            · rw [h] at hy; cases hy
            · have h2' : wr.heap.size ≤ g9 := h2
              rw [h] at hy; injection hy with hy; rw [← hy]; exact ⟨by show g9 ≠ g; omega, by show g9 ≠ fb; omega, h3⟩)
          have ROWL := Lib.hid hl3.len
          have n39 := hl3.rd.2.1
          clear hl3 hb a0 a1 a2 a3 l0 l1 cq0
          go_wp2
          go_loopw [9, 47] (fun s9 s47 wx => ∃ (j g1 k1 nq cq : Nat), j ≤ n3 ∧ s47 = .int .i64 j ∧ s9 = .slice (some ⟨g1, k1, none⟩) nq cq ∧ nq = (visit d ((leapsA W H ac up a b xn).take j) (bfsTo (leapsA W H ac up a b) N s k)).2.length ∧ QAt 3 wx w.heap.size g1 k1 nq cq (visit d ((leapsA W H ac up a b xn).take j) (bfsTo (leapsA W H ac up a b) N s k)).2 ∧ OwnI 3 wx w.heap.size (some ⟨fb, 0, none⟩) N N (visit d ((leapsA W H ac up a b xn).take j) (bfsTo (leapsA W H ac up a b) N s k)).1 ∧ g1 ≠ fb ∧ W2.heap.size ≤ g1 ∧ Rd wx A3 n3 (leapsA W H ac up a b xn) ∧ (∀ y, A3 = some y → y.block ≠ g1 ∧ y.block ≠ fb ∧ y.block < wx.heap.size) ∧ Below W2.heap.size W2 wx) (fun _ s47 _ => n3 - (intOf s47).toNat)
          case atStart => exact ⟨0, g, k0, n2, c2, Nat.zero_le _, rfl, rfl, by rw [List.take_zero]; exact HN2.out, by rw [List.take_zero]; exact QK.out, by rw [List.take_zero]; exact FK.out, hgf, hg2, ROW.out, ROWB.out, BK.out⟩
          case round =>
            obtain ⟨j, g1, k1, nq, cq, hj, rfl, rfl, hlen, hq, hfar, hg1f, hg12, hrow, hrowb, hbw⟩ := hrel
            have OKV : Hid (BfsOk N ((k : Int) + 1) (visit d ((leapsA W H ac up a b xn).take j) (bfsTo (leapsA W H ac up a b) N s k)).1 (visit d ((leapsA W H ac up a b xn).take j) (bfsTo (leapsA W H ac up a b) N s k)).2) := Lib.hid (visit_ok (d := d) ⟨by omega, by omega⟩ _ _ _ (fun z hz => leapsA_in HWH.out (List.mem_of_mem_take hz)) ((HOK.out k).mono (by omega)))
            have hQ64 := nodup_len OKV.out.nodup OKV.out.range
            have DK : Hid ((visit d ((leapsA W H ac up a b xn).take j) (bfsTo (leapsA W H ac up a b) N s k)).1.getD xn 0 = d) := Lib.hid ((visit_keeps ((leapsA W H ac up a b xn).take j) _ _ (by rw [DD.out]; exact hd0)).trans DD.out)
            have hxq := visit_prefix (d := d) ((leapsA W H ac up a b xn).take j) (bfsTo (leapsA W H ac up a b) N s k).1 _ X0.out
            obtain ⟨st, hst⟩ : ∃ st, visit d ((leapsA W H ac up a b xn).take j) (bfsTo (leapsA W H ac up a b) N s k) = st := ⟨_, rfl⟩
            rw [show visit d ((leapsA W H ac up a b xn).take j) ((bfsTo (leapsA W H ac up a b) N s k).1, (bfsTo (leapsA W H ac up a b) N s k).2) = visit d ((leapsA W H ac up a b xn).take j) (bfsTo (leapsA W H ac up a b) N s k) from rfl] at hxq
            rw [hst] at hq hlen hfar hQ64 OKV DK hxq
            have HST := Lib.hid hst
            clear hst
            obtain ⟨F, Q⟩ := st
            simp only at hq hlen hfar hQ64 hxq
            by_cases hjl : j < n3
            · obtain ⟨b2, o2, y, rfl, hb2, hy, y0⟩ := hrow.at_ hjl
              have hyr := leapsA_in HWH.out (List.mem_of_getElem? hy)
              obtain ⟨yn, rfl⟩ : ∃ yn : Nat, y = (yn : Int) := ⟨y.toNat, by omega⟩
              have hyn : yn < N := by omega
              have hy0 : (0 : Int) ≤ (yn : Int) := by omega
              have hy1 : (yn : Int) < (N : Int) := by omega
              obtain ⟨v, hv1, hv2, hv3, hv4⟩ := OKV.out.at_ hyn
              obtain ⟨dv, hdv1, hdv2, _, _⟩ := OKV.out.at_ hxn
              have hdd : dv = d := by have := DK.out; simp only at this hdv2; omega
              rw [hdd] at hdv1
              simp only at hv1 hdv1 hv2
              have cy := hfar.cell hv1
              have cd := hfar.cell hdv1
              have fy := hfar.frozen yn
              have cx := hq.cell hxq
              have HY := Lib.hid hy; have HV2 := Lib.hid hv2
              have HQ := Lib.hid hq; have HF := Lib.hid hfar; have HB := Lib.hid hbw; have HR := Lib.hid hrow; have HRB := Lib.hid hrowb
              have hbsz := hbw.size
              have hnq : nq ≤ 144 := by omega
              have hknq : (k : Int) < (nq : Int) := by have := (List.getElem?_eq_some_iff.1 hxq).1; omega
              have HLEN := Lib.hid hlen
              have hfblt : fb < wr.heap.size := by rcases HF.out.some_ (k := 0) (by omega) with ⟨g9, h9, _, h8⟩; injection h9 with h9; injection h9 with h9; omega
              clear hy hv1 hdv1 hv2 hq hfar hbw hlen hdd hdv2 hrow hrowb hxq
              by_cases hneg : v < 0
              · obtain ⟨o1, g2⟩ := HF.out.stored yn (d + 1)
                have OF := Lib.hid o1
                have HQ2 := Lib.hid (HQ.out.other g2 (by simp; omega))
                have HR2 := Lib.hid (HR.out.other g2 (fun a ha => by have := (HRB.out a ha).2.1; simpa using this))
                have HB2 := Lib.hid (HB.out.trans (below_of_grown g2 (by omega) (fun g h => by injection h with h; omega)))
                clear o1 g2
                go_wp2_with (at_builtin; refine wpList_appQ rfl (.tmp 67) (.tmp 69) 33 rfl i0 Try.underlying33 HI.out HZ0.out HZ1.out HZ2.out (yn : Int) rfl HQ2.out (by rw [size_setCell']; rfl) (by omega) (by rw [size_setCell']; omega) ?_; intro g3 k3 c4 w3 hq3 hg3 hor)
                have hgl := HQ2.out.lt
                rw [size_setCell'] at hor hgl
                have HQ3 := Lib.hid hq3
                have OF3 := Lib.hid (OF.out.other hg3 (fun a ha => by injection ha with ha; rw [← ha]; simp; omega))
                have HR3 := Lib.hid (HR2.out.other hg3 (fun a ha => by have := (HRB.out a ha).1; simpa using this))
                have HB3 := Lib.hid (HB2.out.trans (below_of_grown hg3 (by rw [size_setCell']; omega) (fun g h => by injection h with h; omega)))
                have hsz3 := hg3.size
                rw [size_setCell'] at hsz3
                have hg3f : g3 ≠ fb := by omega
                have hg32 : W2.heap.size ≤ g3 := by omega
                have HRB3 : Hid (∀ y, (some ⟨b2, o2, none⟩ : Option Addr) = some y → y.block ≠ g3 ∧ y.block ≠ fb ∧ y.block < w3.heap.size) := Lib.hid (fun y hy => by
                  have h := HRB.out y hy
                  exact ⟨by omega, h.2.1, by omega⟩)
                clear hq3 hg3 hor
                go_wp2
                go_roundw
                case rel =>
                  have e : visit d ((leapsA W H ac up a b xn).take (j + 1)) (bfsTo (leapsA W H ac up a b) N s k) = (F.set yn (d + 1), Q ++ [(yn : Int)]) := by
                    rw [List.take_add_one, HY.out, visit_append, HST.out]
                    show visit d [(yn : Int)] (F, Q) = _
                    rw [visit_one, Int.toNat_natCast, if_pos (by rw [HV2.out]; exact hneg)]
                  first
                    | exact ⟨j + 1, g3, k3, nq + 1, c4, by omega, by go_num, rfl, by rw [e, HLEN.out]; simp, by rw [e]; exact HQ3.out, by rw [e]; exact OF3.out, hg3f, hg32, HR3.out, HRB3.out, HB3.out⟩
                    | exact ⟨_, _, _, ⟨j + 1, by omega, rfl, g3, k3, nq + 1, c4, rfl, by rw [e, HLEN.out]; simp, by rw [e]; exact HQ3.out, by rw [e]; exact OF3.out, hg3f, hg32, HR3.out, HRB3.out, HB3.out⟩, rfl, rfl, by go_num⟩
                case measure => simp [intOf]; omega
              · have hne : decide (v < 0) = false := by simpa using hneg
                go_wp2
                go_roundw
                case rel =>
                  have e : visit d ((leapsA W H ac up a b xn).take (j + 1)) (bfsTo (leapsA W H ac up a b) N s k) = (F, Q) := by
                    rw [List.take_add_one, HY.out, visit_append, HST.out]
                    show visit d [(yn : Int)] (F, Q) = _
                    rw [visit_one, Int.toNat_natCast, if_neg (by rw [HV2.out]; omega)]
                  exact ⟨j + 1, g1, k1, nq, cq, by omega, by go_num, rfl, by rw [e]; exact HLEN.out, by rw [e]; exact HQ.out, by rw [e]; exact HF.out, hg1f, hg12, HR.out, HRB.out, HB.out⟩
                case measure => simp [intOf]; omega
            · have e2 : (leapsA W H ac up a b xn).take j = leapsA W H ac up a b xn := List.take_of_length_le (by have := ROWL.out; omega)
              have HQ := Lib.hid hq; have HF := Lib.hid hfar; have HB := Lib.hid hbw; have HLEN := Lib.hid hlen
              have E2 := Lib.hid e2
              have hkq : k + 1 ≤ nq := by have := (List.getElem?_eq_some_iff.1 hxq).1; omega
              clear hq hfar hbw hlen e2 hxq hrow hrowb
              go_wp2
              go_roundg (144 - (k + 1))
              case measure => omega
              case rel =>
                have e : bfsTo (leapsA W H ac up a b) N s (k + 1) = (F, Q) := by
                  rw [bfs_next X0.out, Int.toNat_natCast, DD.out, ← HST.out, E2.out]
                exact ⟨k + 1, g1, k1, nq, cq, hkq, by rw [e]; exact HLEN.out, by omega, by go_num, rfl, by rw [e]; exact HQ.out, by rw [e]; exact HF.out, hg1f, hg12, HB.out⟩
        · have hL : (bfsTo (leapsA W H ac up a b) N s k).2.length ≤ k := by have := HN2.out; omega
          have hfe := far_of_end (adj := leapsA W H ac up a b) (N := N) (start := (s : Int)) (by omega) (fun c _ x hx => leapsA_in HWH.out hx) hL
          rw [hfe] at hfar
          have HF := Lib.hid hfar; have HB := Lib.hid hbw
          clear hL hfe hfar hbw hq hn2
          go_wp2
          go_ret
          exact ⟨fb, rfl, HF.out, B.out.trans (HB.out.mono B.out.size)⟩

end Go.Proofs.Ytaliknhfcdmohaa

namespace Go.Proofs.Ytaliknhfcdmohaa
open Go.RowKit


set_option maxRecDepth 100000 in
set_option maxHeartbeats 2000000 in
theorem onwardAround_any (W H : Int) (ac up : Bool) (a b : Int) (w : World) (hg : goodA W H = true) (hl : leaperB a b = true) :
    Calls Try.prog 67 #[ard W H ac up, lpr a b] w fun e w' => ∃ mb, e = .returned (.map (some mb)) ∧ OnMap w' w.heap.size mb (upTo (W * H).toNat) (leapsA W H ac up a b) ∧ Below w.heap.size w w' := by
  have HG := Lib.hid hg; have HL := Lib.hid hl
  have hA := areaA hg
  obtain ⟨A1, A2⟩ := hA
  obtain ⟨N, hN⟩ : ∃ N : Nat, W * H = (N : Int) := ⟨(W * H).toNat, by omega⟩
  have hNn := Lib.hid (show (W * H).toNat = N by omega)
  have HWH := Lib.hid hN
  have N2 : N ≤ 144 := by omega
  have HSZ := Lib.hid (fun w' => sizeA_any W H ac up w' hg)
  rw [hN] at HSZ
  clear hg hl hN A1 A2
  obtain ⟨W2, hW2⟩ : ∃ W2, W2 = ((w.alloc (.cells #[.int .i64 W, .int .i64 H, .bool ac, .bool up] 25)).alloc (.cells #[.int .i64 a, .int .i64 b] 36)).alloc (.map #[] 0) := ⟨_, rfl⟩
  have hsz : W2.heap.size = w.heap.size + 3 := by rw [hW2]; simp
  have a0 : W2.cell? ⟨w.heap.size, 0, none⟩ = some (.int .i64 W) := by rw [hW2]; go_simp
  have a1 : W2.cell? ⟨w.heap.size, 1, none⟩ = some (.int .i64 H) := by rw [hW2]; go_simp
  have a2 : W2.cell? ⟨w.heap.size, 2, none⟩ = some (.bool ac) := by rw [hW2]; go_simp
  have a3 : W2.cell? ⟨w.heap.size, 3, none⟩ = some (.bool up) := by rw [hW2]; go_simp
  have al : w.heap.size < W2.heap.size := by omega
  have l0 : W2.cell? ⟨w.heap.size + 1, 0, none⟩ = some (.int .i64 a) := by rw [hW2]; go_simp
  have l1 : W2.cell? ⟨w.heap.size + 1, 1, none⟩ = some (.int .i64 b) := by rw [hW2]; go_simp
  have ll : w.heap.size + 1 < W2.heap.size := by omega
  have B := Lib.hid (show Below w.heap.size w W2 by rw [hW2]; repeat (first | exact Below.refl _ _ | refine below_new ?_ _))
  have MP := Lib.hid (show MapI Try.prog 3 W2 (w.heap.size + 1 + 1) 0 (.slice none 0 0) (fun _ => .slice none 0 0) by
    rw [hW2]
    have := MapI.made Try.prog 3 ((w.alloc (.cells #[.int .i64 W, .int .i64 H, .bool ac, .bool up] 25)).alloc (.cells #[.int .i64 a, .int .i64 b] 36)) (.slice none 0 0)
    simpa using this)
  have hmm := @run_makeMap Try.prog
  go_enter Try.func67, Try.ntmps67
  go_wp2_with fail
  rw [← hW2]
  obtain ⟨mb, hmb⟩ : ∃ mb, mb = w.heap.size + 1 + 1 := ⟨_, rfl⟩
  rw [← hmb] at MP ⊢
  have hmb1 : w.heap.size + 2 ≤ mb := by omega
  have hmb2 : mb < W2.heap.size := by omega
  clear hW2 hmm hmb hsz
  refine (HSZ.out _).mono ?_
  rintro e ws ⟨rfl, hb⟩
  replace a0 := cell_keep a0 al hb
  replace a1 := cell_keep a1 al hb
  replace a2 := cell_keep a2 al hb
  replace a3 := cell_keep a3 al hb
  replace al := lt_keep al hb
  replace l0 := cell_keep l0 ll hb
  replace l1 := cell_keep l1 ll hb
  replace ll := lt_keep ll hb
  replace B := Lib.hid (below_next B.out hb)
  replace MP := Lib.hid (MP.out.keep hb)
  have hmlt : mb < ws.heap.size := Nat.lt_of_lt_of_le hmb2 hb.size
  clear hb
  go_wp2
  go_loopw [10] (fun i wr => ∃ (k : Nat) (f : Int → Value), k ≤ N ∧ i = .int .i64 k ∧ MapI Try.prog 3 wr mb k (.slice none 0 0) f ∧ (∀ x ∈ upTo k, RowAt wr w.heap.size mb (f x) (leapsA W H ac up a b x)) ∧ ws.grownBy wr (some mb)) (fun i _ => N - (intOf i).toNat)
  case atStart => exact ⟨0, _, by omega, rfl, MP.out, (fun x hx => by simp [upTo] at hx), grown_refl _ _⟩
  case round =>
    obtain ⟨k, f, hk, rfl, hm, hrows, hgw⟩ := hrel
    have hBw : Below w.heap.size w wr := B.out.trans (below_of_grown hgw (by omega) (fun g h => by injection h with h; omega))
    have HM := Lib.hid hm; have HR := Lib.hid hrows
    have HGW := Lib.hid hgw
    have hsw := hgw.size
    clear hm hrows
    by_cases hlt : k < N
    · have b0 := hgw.cell a0 (by simp; omega); have b1 := hgw.cell a1 (by simp; omega); have b2 := hgw.cell a2 (by simp; omega); have b3 := hgw.cell a3 (by simp; omega); have c0 := hgw.cell l0 (by simp; omega); have c1 := hgw.cell l1 (by simp; omega)
      have HBW := Lib.hid hBw
      clear hgw hBw
      go_wp2_with fail
      refine (leapsAround_any W H ac up a b (k : Int) _ HG.out HL.out ⟨by omega, by rw [HWH.out]; omega⟩).mono ?_
      rintro e wv ⟨A3, n3, c3, rfl, hl3, hb⟩
      have hn3 : n3 ≤ 64 := by have h1 := leapsA_len (W := W) (H := H) (ac := ac) (up := up) (q := (k : Int)) HL.out; have h2 := hl3.len; omega
      have HL3 := Lib.hid hl3
      replace HM := Lib.hid (HM.out.keep hb)
      replace HR := Lib.hid (fun y hy => (HR.out y hy).keep hb)
      replace HGW := Lib.hid (grown_next HGW.out (grown_of_below hb (some mb)))
      have hsv := hb.size
      clear hl3 hb b0 b1 b2 b3 c0 c1
      go_wp2_with (at_mapUpdate; refine wpList_update rfl (.tmp 13) (.tmp 14) (.tmp 18) rfl Try.underlying3 Try.underlying71 rfl HM.out (by omega) (k : Int) (.slice A3 n3 c3) rfl rfl (wf_small ⟨by omega, by omega⟩) ?_; intro w2 hm2 hg2)
      have HM2 := Lib.hid hm2; have HG2 := Lib.hid hg2
      clear hm2 hg2
      go_wp2
      go_roundw
      case rel =>
        refine ⟨k + 1, _, by omega, by go_num, HM2.out, fun y hy => ?_, grown_next HGW.out HG2.out⟩
        rw [upTo_mem] at hy
        by_cases hne : y = (k : Int)
        · subst hne
          rw [if_pos rfl]
          have hrow : RowAt _ w.heap.size mb (.slice A3 n3 c3) (leapsA W H ac up a b k) := ⟨A3, n3, c3, rfl, HL3.out.rd, hn3, fun z hz => by
            rcases HL3.out.form with ⟨h, _⟩ | ⟨g, h, h2, h3, _⟩
            · rw [h] at hz; cases hz
            · rw [h] at hz; injection hz with hz; rw [← hz]; exact ⟨by show w.heap.size ≤ g; omega, h3, by show g ≠ mb; omega⟩⟩
          exact hrow.other HG2.out
        · rw [if_neg hne]
          exact (HR.out y (upTo_mem.2 ⟨hy.1, by omega⟩)).other HG2.out
      case measure => simp [intOf]; omega
    · have ek : k = N := by omega
      subst ek
      have HBW := Lib.hid hBw
      have HRR := Lib.hid (show OnMap wr w.heap.size mb (upTo k) (leapsA W H ac up a b) from ⟨by omega, k, f, by omega, HM.out, HR.out⟩)
      clear hBw hgw
      go_wp2
      go_ret
      exact ⟨mb, rfl, by rw [hNn.out]; exact HRR.out, HBW.out⟩

end Go.Proofs.Ytaliknhfcdmohaa

namespace Go.Proofs.Ytaliknhfcdmohaa
open Go.RowKit

def distA (W H : Int) (ac up : Bool) (a b p : Int) : List Int := farL (leapsA W H ac up a b) (W * H).toNat p
def distAV (W H : Int) (ac up : Bool) (a b p q : Int) : Int := (distA W H ac up a b p).getD q.toNat (-1)
/-- What holds where there are a leaper and a board around. -/
structure ArFacts (W H : Int) (a b : Int) (N : Nat) : Prop where
  g : goodA W H = true
  l : leaperB a b = true
  wh : W * H = (N : Int)
  n : 1 ≤ N ∧ N ≤ 144
theorem ar_facts {W H a b : Int} (h : twoA W H a b = true) : ArFacts W H a b (W * H).toNat := by
  obtain ⟨h1, h2⟩ := twoA_iff.1 h
  have := areaA h2
  exact ⟨h2, h1, by omega, by omega⟩
theorem ArFacts.nat {W H a b : Int} {N : Nat} (h : ArFacts W H a b N) : (W * H).toNat = N := by have := h.wh; omega
theorem adjA_in {W H a b : Int} {ac up : Bool} {N : Nat} (h : ArFacts W H a b N) : ∀ x, ∀ y ∈ leapsA W H ac up a b x, y ∈ upTo N := fun _ _ hy => upTo_mem.2 (leapsA_in h.wh hy)
theorem distA_len {W H a b p : Int} {ac up : Bool} {N : Nat} (h : ArFacts W H a b N) (hp : 0 ≤ p ∧ p < N) : (distA W H ac up a b p).length = N := by
  rw [distA, h.nat]
  exact (bfs_ok (adj := leapsA W H ac up a b) (N := N) (start := p) hp (fun c _ x hx => leapsA_in h.wh hx) N).len
theorem far144 {W H a b p : Int} {ac up : Bool} {N : Nat} (h : ArFacts W H a b N) (hp : 0 ≤ p ∧ p < N) : farL (leapsA W H ac up a b) 144 p = distA W H ac up a b p ++ List.replicate (144 - N) (-1) := by
  rw [distA, h.nat, ← far_pad (M := 144 - N) hp (fun c _ x hx => leapsA_in h.wh hx), show N + (144 - N) = 144 by have := h.n; omega]
theorem distA_at {W H a b p : Int} {ac up : Bool} {N : Nat} (h : ArFacts W H a b N) (hp : 0 ≤ p ∧ p < N) {qn : Nat} (hq : qn < N) :
    (distA W H ac up a b p)[qn]? = some (distAV W H ac up a b p (qn : Int)) ∧ -1 ≤ distAV W H ac up a b p (qn : Int) ∧ distAV W H ac up a b p (qn : Int) ≤ 144 := by
  have hlen := distA_len (ac := ac) (up := up) h hp
  have hx : (distA W H ac up a b p)[qn]? = some (distA W H ac up a b p)[qn] := List.getElem?_eq_getElem (by omega)
  have hv : distAV W H ac up a b p (qn : Int) = (distA W H ac up a b p)[qn] := by rw [distAV, Int.toNat_natCast, List.getD_eq_getElem?_getD, hx]; rfl
  rw [hv]
  refine ⟨hx, ?_⟩
  have hb := (bfs_ok (adj := leapsA W H ac up a b) (N := N) (start := p) hp (fun c _ x hx => leapsA_in h.wh hx) N).lo qn (distA W H ac up a b p)[qn] (by rw [← hx, distA, h.nat]; rfl)
  have := h.n; omega
def dAns (d : Int) : Int := if d = -1 then 0 else d
def dOk (d : Int) : Bool := !(d == -1)
theorem dOk_eq {d : Int} (h : -1 ≤ d) : dOk d = decide (0 ≤ d) := by rw [dOk, Bool.eq_iff_iff]; simp; omega
theorem dAns_eq {d : Int} (h : -1 ≤ d) : dAns d = if decide (0 ≤ d) = true then d else 0 := by
  unfold dAns
  by_cases h2 : d = -1
  · rw [if_pos h2, if_neg (by simp; omega)]
  · rw [if_neg h2, if_pos (by simp; omega)]
def okDA (W H : Int) (ac up : Bool) (a b p q : Int) : Bool := leaperB a b && cellA W H p && cellA W H q && decide (0 ≤ distAV W H ac up a b p q)
def disV (W H : Int) (ac up : Bool) (a b p q : Int) : Int := if okDA W H ac up a b p q then distAV W H ac up a b p q else 0
theorem disV_no {W H a b p q : Int} {ac up : Bool} (h : okDA W H ac up a b p q = false) : disV W H ac up a b p q = 0 := by rw [disV, h]; rfl


set_option maxRecDepth 100000 in
set_option maxHeartbeats 600000 in
theorem distance_any (lo0 mb : Nat) (cells : List Int) (adj : Int → List Int) (s t : Nat) (d : Int) (w : World) (hm : OnMap w lo0 mb cells adj) (hs : s < 144) (hsc : (s : Int) ∈ cells) (hcl : ∀ x ∈ cells, 0 ≤ x ∧ x < 144) (hadj : ∀ x, ∀ y ∈ adj x, y ∈ cells) (ht : t < 144) (hlen : (farL adj 144 s).length = 144) (hd : (farL adj 144 s)[t]? = some d) (hd0 : -1 ≤ d ∧ d ≤ 144) :
    Calls Try.prog 68 #[.map (some mb), .int .i64 (s : Int), .int .i64 (t : Int)] w fun e w' => e = .returned (.tuple #[.int .i64 (dAns d), .bool (dOk d)]) ∧ Below w.heap.size w w' := by
  have HFL := Lib.hid hlen; have HAT := Lib.hid (fun w' => run_farK (farL adj 144 s) hlen t ht d hd w')
  have HDF := Lib.hid (fun w' (hm' : OnMap w' lo0 mb cells adj) => distancesFrom_any lo0 mb cells adj s w' hm' hs hsc hcl hadj)
  have HM := Lib.hid hm
  have hd' := hd0
  obtain ⟨d1, d2⟩ := hd0
  have t0 : (0 : Int) ≤ (t : Int) := by omega
  have t1 : (t : Int) < 144 := by omega
  obtain ⟨L, hL⟩ : ∃ L, L = Value.agg ((farL adj 144 s).map (Value.int .i64)).toArray := ⟨_, rfl⟩
  rw [← hL] at HAT HDF
  clear hm hs hsc hcl hadj hd hlen hL hd' ht
  have DO := Lib.hid (show dOk d = !(d == -1) from rfl); have DA := Lib.hid (show dAns d = if d = -1 then 0 else d from rfl)
  obtain ⟨x, hx⟩ : ∃ x, dAns d = x := ⟨_, rfl⟩
  obtain ⟨y, hy⟩ : ∃ y, dOk d = y := ⟨_, rfl⟩
  rw [hx, hy]
  have HX := Lib.hid hx; have HY := Lib.hid hy
  clear hx hy
  by_cases hneg : d = -1
  · have hne : (d == -1) = true := by simpa using hneg
    go_enter Try.func68, Try.ntmps68
    go_wp2_with fail
    refine (HDF.out _ HM.out).mono ?_
    rintro e wv ⟨rfl, hb⟩
    have hix := HAT.out
    have HB := Lib.hid hb
    clear hb
    go_wp2
    go_ret2
    exact ⟨by rw [show x = 0 by rw [← HX.out, DA.out, if_pos hneg], show y = false by rw [← HY.out, DO.out, hne]; rfl]; rfl, HB.out⟩
  · have hne : (d == -1) = false := by simpa using hneg
    go_enter Try.func68, Try.ntmps68
    go_wp2_with fail
    refine (HDF.out _ HM.out).mono ?_
    rintro e wv ⟨rfl, hb⟩
    have hix := HAT.out
    have HB := Lib.hid hb
    clear hb
    go_wp2
    go_ret2
    exact ⟨by rw [show x = d by rw [← HX.out, DA.out, if_neg hneg], show y = true by rw [← HY.out, DO.out, hne]; rfl]; rfl, HB.out⟩

set_option maxRecDepth 100000 in
set_option maxHeartbeats 2000000 in
theorem spec_DistanceAround (W H : Int) (ac up : Bool) (a b p q : Int) (w : World) :
    Calls Try.prog 32 #[ard W H ac up, lpr a b, .int .i64 p, .int .i64 q] w fun e w' => e = .returned (.tuple #[.int .i64 (disV W H ac up a b p q), .bool (okDA W H ac up a b p q)]) ∧ Below w.heap.size w w' := by
  obtain ⟨W2, hW2⟩ : ∃ W2, W2 = (w.alloc (.cells #[.int .i64 W, .int .i64 H, .bool ac, .bool up] 25)).alloc (.cells #[.int .i64 a, .int .i64 b] 36) := ⟨_, rfl⟩
  have hsz : W2.heap.size = w.heap.size + 2 := by rw [hW2]; simp
  have a0 : W2.cell? ⟨w.heap.size, 0, none⟩ = some (.int .i64 W) := by rw [hW2]; go_simp
  have a1 : W2.cell? ⟨w.heap.size, 1, none⟩ = some (.int .i64 H) := by rw [hW2]; go_simp
  have a2 : W2.cell? ⟨w.heap.size, 2, none⟩ = some (.bool ac) := by rw [hW2]; go_simp
  have a3 : W2.cell? ⟨w.heap.size, 3, none⟩ = some (.bool up) := by rw [hW2]; go_simp
  have al : w.heap.size < W2.heap.size := by omega
  have l0 : W2.cell? ⟨w.heap.size + 1, 0, none⟩ = some (.int .i64 a) := by rw [hW2]; go_simp
  have l1 : W2.cell? ⟨w.heap.size + 1, 1, none⟩ = some (.int .i64 b) := by rw [hW2]; go_simp
  have ll : w.heap.size + 1 < W2.heap.size := by omega
  have B := Lib.hid (show Below w.heap.size w W2 by rw [hW2]; repeat (first | exact Below.refl _ _ | refine below_new ?_ _))
  cases ht : twoA W H a b
  · have OK := Lib.hid (show okDA W H ac up a b p q = false by rw [okDA, Bool.and_eq_false_iff, Bool.and_eq_false_iff, Bool.and_eq_false_iff]; left; left; rw [twoA, Bool.and_eq_false_iff] at ht; rcases ht with h | h; exact .inl h; right; rw [cellA, h]; rfl)
    go_enter Try.func32, Try.ntmps32
    go_wp2_with fail
    rw [← hW2]
    clear hW2
    refine (arTwo_any _ _ _ _ _ _ _).mono ?_
    rw [ht]
    rintro e wv ⟨rfl, hb⟩
    replace a0 := cell_keep a0 al hb
    replace a1 := cell_keep a1 al hb
    replace a2 := cell_keep a2 al hb
    replace a3 := cell_keep a3 al hb
    replace al := lt_keep al hb
    replace l0 := cell_keep l0 ll hb
    replace l1 := cell_keep l1 ll hb
    replace ll := lt_keep ll hb
    replace B := Lib.hid (below_next B.out hb)
    clear hb
    clear a0 a1 a2 a3 l0 l1 al ll
    go_wp2
    go_ret2
    exact ⟨by rw [disV_no OK.out, OK.out]; rfl, B.out⟩
  have hl1 := (twoA_iff.1 ht).1
  cases hp1 : cellA W H p
  · have OK := Lib.hid (show okDA W H ac up a b p q = false by rw [okDA, hp1]; simp)
    go_enter Try.func32, Try.ntmps32
    go_wp2_with fail
    rw [← hW2]
    clear hW2
    refine (arTwo_any _ _ _ _ _ _ _).mono ?_
    rw [ht]
    rintro e wv ⟨rfl, hb⟩
    replace a0 := cell_keep a0 al hb
    replace a1 := cell_keep a1 al hb
    replace a2 := cell_keep a2 al hb
    replace a3 := cell_keep a3 al hb
    replace al := lt_keep al hb
    replace l0 := cell_keep l0 ll hb
    replace l1 := cell_keep l1 ll hb
    replace ll := lt_keep ll hb
    replace B := Lib.hid (below_next B.out hb)
    clear hb
    go_wp2_with fail
    refine (arCell_any _ _ _ _ _ _).mono ?_
    rw [hp1]
    rintro e wv ⟨rfl, hb⟩
    replace a0 := cell_keep a0 al hb
    replace a1 := cell_keep a1 al hb
    replace a2 := cell_keep a2 al hb
    replace a3 := cell_keep a3 al hb
    replace al := lt_keep al hb
    replace l0 := cell_keep l0 ll hb
    replace l1 := cell_keep l1 ll hb
    replace ll := lt_keep ll hb
    replace B := Lib.hid (below_next B.out hb)
    clear hb
    clear a0 a1 a2 a3 l0 l1 al ll
    go_wp2
    go_ret2
    exact ⟨by rw [disV_no OK.out, OK.out]; rfl, B.out⟩
  cases hq1 : cellA W H q
  · have OK := Lib.hid (show okDA W H ac up a b p q = false by rw [okDA, hq1]; simp)
    go_enter Try.func32, Try.ntmps32
    go_wp2_with fail
    rw [← hW2]
    clear hW2
    refine (arTwo_any _ _ _ _ _ _ _).mono ?_
    rw [ht]
    rintro e wv ⟨rfl, hb⟩
    replace a0 := cell_keep a0 al hb
    replace a1 := cell_keep a1 al hb
    replace a2 := cell_keep a2 al hb
    replace a3 := cell_keep a3 al hb
    replace al := lt_keep al hb
    replace l0 := cell_keep l0 ll hb
    replace l1 := cell_keep l1 ll hb
    replace ll := lt_keep ll hb
    replace B := Lib.hid (below_next B.out hb)
    clear hb
    go_wp2_with fail
    refine (arCell_any _ _ _ _ _ _).mono ?_
    rw [hp1]
    rintro e wv ⟨rfl, hb⟩
    replace a0 := cell_keep a0 al hb
    replace a1 := cell_keep a1 al hb
    replace a2 := cell_keep a2 al hb
    replace a3 := cell_keep a3 al hb
    replace al := lt_keep al hb
    replace l0 := cell_keep l0 ll hb
    replace l1 := cell_keep l1 ll hb
    replace ll := lt_keep ll hb
    replace B := Lib.hid (below_next B.out hb)
    clear hb
    go_wp2_with fail
    refine (arCell_any _ _ _ _ _ _).mono ?_
    rw [hq1]
    rintro e wv ⟨rfl, hb⟩
    replace a0 := cell_keep a0 al hb
    replace a1 := cell_keep a1 al hb
    replace a2 := cell_keep a2 al hb
    replace a3 := cell_keep a3 al hb
    replace al := lt_keep al hb
    replace l0 := cell_keep l0 ll hb
    replace l1 := cell_keep l1 ll hb
    replace ll := lt_keep ll hb
    replace B := Lib.hid (below_next B.out hb)
    clear hb
    clear a0 a1 a2 a3 l0 l1 al ll
    go_wp2
    go_ret2
    exact ⟨by rw [disV_no OK.out, OK.out]; rfl, B.out⟩
  · have HT := Lib.hid (show twoA W H a b = true from twoA_iff.2 ⟨hl1, (cellA_iff.1 hp1).1⟩)
    have HF := Lib.hid (ar_facts HT.out)
    have HPR := (cellA_iff.1 hp1).2; have HQR := (cellA_iff.1 hq1).2
    obtain ⟨N, hN⟩ : ∃ N, (W * H).toNat = N := ⟨_, rfl⟩
    rw [hN] at HF
    rw [HF.out.wh] at HPR HQR
    obtain ⟨pn, rfl⟩ : ∃ pn : Nat, p = (pn : Int) := ⟨p.toNat, by omega⟩
    obtain ⟨qn, rfl⟩ : ∃ qn : Nat, q = (qn : Int) := ⟨q.toNat, by omega⟩
    have hpN : pn < N := by omega
    have hqN : qn < N := by omega
    have N2 := HF.out.n.2
    obtain ⟨hd1, hd2, hd3⟩ := distA_at (ac := ac) (up := up) HF.out HPR hqN
    have HLN := Lib.hid (distA_len (ac := ac) (up := up) HF.out HPR)
    have HOK := Lib.hid (show okDA W H ac up a b pn qn = decide (0 ≤ distAV W H ac up a b pn qn) by rw [okDA, hl1, hp1, hq1]; rfl)
    have HV := Lib.hid (show disV W H ac up a b pn qn = if okDA W H ac up a b pn qn then distAV W H ac up a b pn qn else 0 from rfl)
    have HPA := Lib.hid HPR
    obtain ⟨d, hd⟩ : ∃ d, distAV W H ac up a b (pn : Int) (qn : Int) = d := ⟨_, rfl⟩
    rw [hd] at hd1 hd2 hd3 HOK HV
    have HD1 := Lib.hid hd1
    clear hd hd1 HPR
    by_cases hneg : d < 0
    · have OK := Lib.hid (show okDA W H ac up a b pn qn = false by rw [HOK.out]; simp; omega)
      go_enter Try.func32, Try.ntmps32
      go_wp2_with fail
      rw [← hW2]
      clear hW2
      refine (arTwo_any _ _ _ _ _ _ _).mono ?_
      rw [ht]
      rintro e wv ⟨rfl, hb⟩
      replace a0 := cell_keep a0 al hb
      replace a1 := cell_keep a1 al hb
      replace a2 := cell_keep a2 al hb
      replace a3 := cell_keep a3 al hb
      replace al := lt_keep al hb
      replace l0 := cell_keep l0 ll hb
      replace l1 := cell_keep l1 ll hb
      replace ll := lt_keep ll hb
      replace B := Lib.hid (below_next B.out hb)
      clear hb
      go_wp2_with fail
      refine (arCell_any _ _ _ _ _ _).mono ?_
      rw [hp1]
      rintro e wv ⟨rfl, hb⟩
      replace a0 := cell_keep a0 al hb
      replace a1 := cell_keep a1 al hb
      replace a2 := cell_keep a2 al hb
      replace a3 := cell_keep a3 al hb
      replace al := lt_keep al hb
      replace l0 := cell_keep l0 ll hb
      replace l1 := cell_keep l1 ll hb
      replace ll := lt_keep ll hb
      replace B := Lib.hid (below_next B.out hb)
      clear hb
      go_wp2_with fail
      refine (arCell_any _ _ _ _ _ _).mono ?_
      rw [hq1]
      rintro e wv ⟨rfl, hb⟩
      replace a0 := cell_keep a0 al hb
      replace a1 := cell_keep a1 al hb
      replace a2 := cell_keep a2 al hb
      replace a3 := cell_keep a3 al hb
      replace al := lt_keep al hb
      replace l0 := cell_keep l0 ll hb
      replace l1 := cell_keep l1 ll hb
      replace ll := lt_keep ll hb
      replace B := Lib.hid (below_next B.out hb)
      clear hb
      go_wp2_with fail
      refine (arFrom_any W H ac up a b pn N _ HF.out.g HF.out.l HF.out.wh hpN).mono ?_
      rintro e wx ⟨gf, rfl, hown, hb⟩
      have hcl := hown.cell (show (farL (leapsA W H ac up a b) N (pn : Int))[qn]? = some d by have h := HD1.out; rw [distA, hN] at h; exact h)
      replace B := Lib.hid (below_next B.out hb)
      have q0 : (0 : Int) ≤ (qn : Int) := by omega
      have q1 : (qn : Int) < (N : Int) := by omega
      clear hown hb
      clear a0 a1 a2 a3 l0 l1 al ll
      go_wp2
      go_ret2
      exact ⟨by rw [disV_no OK.out, OK.out]; rfl, B.out⟩
    · have OK := Lib.hid (show okDA W H ac up a b pn qn = true by rw [HOK.out]; simp; omega)
      go_enter Try.func32, Try.ntmps32
      go_wp2_with fail
      rw [← hW2]
      clear hW2
      refine (arTwo_any _ _ _ _ _ _ _).mono ?_
      rw [ht]
      rintro e wv ⟨rfl, hb⟩
      replace a0 := cell_keep a0 al hb
      replace a1 := cell_keep a1 al hb
      replace a2 := cell_keep a2 al hb
      replace a3 := cell_keep a3 al hb
      replace al := lt_keep al hb
      replace l0 := cell_keep l0 ll hb
      replace l1 := cell_keep l1 ll hb
      replace ll := lt_keep ll hb
      replace B := Lib.hid (below_next B.out hb)
      clear hb
      go_wp2_with fail
      refine (arCell_any _ _ _ _ _ _).mono ?_
      rw [hp1]
      rintro e wv ⟨rfl, hb⟩
      replace a0 := cell_keep a0 al hb
      replace a1 := cell_keep a1 al hb
      replace a2 := cell_keep a2 al hb
      replace a3 := cell_keep a3 al hb
      replace al := lt_keep al hb
      replace l0 := cell_keep l0 ll hb
      replace l1 := cell_keep l1 ll hb
      replace ll := lt_keep ll hb
      replace B := Lib.hid (below_next B.out hb)
      clear hb
      go_wp2_with fail
      refine (arCell_any _ _ _ _ _ _).mono ?_
      rw [hq1]
      rintro e wv ⟨rfl, hb⟩
      replace a0 := cell_keep a0 al hb
      replace a1 := cell_keep a1 al hb
      replace a2 := cell_keep a2 al hb
      replace a3 := cell_keep a3 al hb
      replace al := lt_keep al hb
      replace l0 := cell_keep l0 ll hb
      replace l1 := cell_keep l1 ll hb
      replace ll := lt_keep ll hb
      replace B := Lib.hid (below_next B.out hb)
      clear hb
      go_wp2_with fail
      refine (arFrom_any W H ac up a b pn N _ HF.out.g HF.out.l HF.out.wh hpN).mono ?_
      rintro e wx ⟨gf, rfl, hown, hb⟩
      have hcl := hown.cell (show (farL (leapsA W H ac up a b) N (pn : Int))[qn]? = some d by have h := HD1.out; rw [distA, hN] at h; exact h)
      replace B := Lib.hid (below_next B.out hb)
      have q0 : (0 : Int) ≤ (qn : Int) := by omega
      have q1 : (qn : Int) < (N : Int) := by omega
      clear hown hb
      clear a0 a1 a2 a3 l0 l1 al ll
      go_wp2
      go_ret2
      exact ⟨by rw [HV.out, OK.out]; rfl, B.out⟩

set_option maxRecDepth 100000 in
set_option maxHeartbeats 2000000 in
theorem impl_DistanceAround (W H : Int) (ac up : Bool) (a b p q : Int) (w : World) :
    Calls Try.prog 33 #[ard W H ac up, lpr a b, .int .i64 p, .int .i64 q] w fun e w' => e = .returned (.tuple #[.int .i64 (disV W H ac up a b p q), .bool (okDA W H ac up a b p q)]) ∧ Below w.heap.size w w' := by
  obtain ⟨W2, hW2⟩ : ∃ W2, W2 = ((w.alloc (.cells #[.int .i64 W, .int .i64 H, .bool ac, .bool up] 25)).alloc (.cells #[.int .i64 a, .int .i64 b] 36)).alloc (.cells #[.int .i64 p, .int .i64 q] 3) := ⟨_, rfl⟩
  have hsz : W2.heap.size = w.heap.size + 3 := by rw [hW2]; simp
  have a0 : W2.cell? ⟨w.heap.size, 0, none⟩ = some (.int .i64 W) := by rw [hW2]; go_simp
  have a1 : W2.cell? ⟨w.heap.size, 1, none⟩ = some (.int .i64 H) := by rw [hW2]; go_simp
  have a2 : W2.cell? ⟨w.heap.size, 2, none⟩ = some (.bool ac) := by rw [hW2]; go_simp
  have a3 : W2.cell? ⟨w.heap.size, 3, none⟩ = some (.bool up) := by rw [hW2]; go_simp
  have al : w.heap.size < W2.heap.size := by omega
  have l0 : W2.cell? ⟨w.heap.size + 1, 0, none⟩ = some (.int .i64 a) := by rw [hW2]; go_simp
  have l1 : W2.cell? ⟨w.heap.size + 1, 1, none⟩ = some (.int .i64 b) := by rw [hW2]; go_simp
  have ll : w.heap.size + 1 < W2.heap.size := by omega
  have q0 : W2.cell? ⟨w.heap.size + 1 + 1, 0, none⟩ = some (.int .i64 p) := by rw [hW2]; go_simp
  have q1 : W2.cell? ⟨w.heap.size + 1 + 1, 1, none⟩ = some (.int .i64 q) := by rw [hW2]; go_simp
  have ql : w.heap.size + 1 + 1 < W2.heap.size := by omega
  have B := Lib.hid (show Below w.heap.size w W2 by rw [hW2]; repeat (first | exact Below.refl _ _ | refine below_new ?_ _))
  have RQ := Lib.hid (show Rd W2 (some ⟨w.heap.size + 1 + 1, 0, none⟩) 2 [p, q] from ⟨rfl, by omega, fun k hk => by
    have h2 : k = 0 ∨ k = 1 := by omega
    rcases h2 with rfl | rfl
    · exact ⟨_, 0, _, rfl, by omega, rfl, q0⟩
    · exact ⟨_, 0, _, rfl, by omega, rfl, q1⟩⟩)
  have HE := Lib.hid (show (leaperB a b && aroundB W H [p, q]) = (leaperB a b && cellA W H p && cellA W H q) by rw [aroundB, cellA, cellA, List.all_cons, List.all_cons, List.all_nil]; cases leaperB a b <;> cases goodA W H <;> simp)
  clear q0 q1 ql hsz
  cases hq : (leaperB a b && cellA W H p && cellA W H q)
  · have OK := Lib.hid (show okDA W H ac up a b p q = false by rw [okDA, hq]; rfl)
    go_enter Try.func33, Try.ntmps33
    go_wp2_with fail
    rw [← hW2]
    clear hW2
    refine (isLeaperAround_any W H ac up a b _ 2 2 _ _ RQ.out).mono ?_
    rw [HE.out, hq]
    rintro e wv ⟨rfl, hb⟩
    replace a0 := cell_keep a0 al hb
    replace a1 := cell_keep a1 al hb
    replace a2 := cell_keep a2 al hb
    replace a3 := cell_keep a3 al hb
    replace al := lt_keep al hb
    replace l0 := cell_keep l0 ll hb
    replace l1 := cell_keep l1 ll hb
    replace ll := lt_keep ll hb
    replace B := Lib.hid (below_next B.out hb)
    clear hb
    clear RQ HE
    clear a0 a1 a2 a3 l0 l1 al ll
    go_wp2
    go_ret2
    exact ⟨by rw [disV_no OK.out, OK.out]; rfl, B.out⟩
  · have h9 := hq
    rw [Bool.and_eq_true, Bool.and_eq_true] at h9
    obtain ⟨⟨hl1, hp1⟩, hq1⟩ := h9
    have HT := Lib.hid (show twoA W H a b = true from twoA_iff.2 ⟨hl1, (cellA_iff.1 hp1).1⟩)
    have HF := Lib.hid (ar_facts HT.out)
    have HPR := (cellA_iff.1 hp1).2; have HQR := (cellA_iff.1 hq1).2
    obtain ⟨N, hN⟩ : ∃ N, (W * H).toNat = N := ⟨_, rfl⟩
    rw [hN] at HF
    rw [HF.out.wh] at HPR HQR
    obtain ⟨pn, rfl⟩ : ∃ pn : Nat, p = (pn : Int) := ⟨p.toNat, by omega⟩
    obtain ⟨qn, rfl⟩ : ∃ qn : Nat, q = (qn : Int) := ⟨q.toNat, by omega⟩
    have hpN : pn < N := by omega
    have hqN : qn < N := by omega
    have N2 := HF.out.n.2
    obtain ⟨hd1, hd2, hd3⟩ := distA_at (ac := ac) (up := up) HF.out HPR hqN
    have HLN := Lib.hid (distA_len (ac := ac) (up := up) HF.out HPR)
    have HOK := Lib.hid (show okDA W H ac up a b pn qn = decide (0 ≤ distAV W H ac up a b pn qn) by rw [okDA, hl1, hp1, hq1]; rfl)
    have HV := Lib.hid (show disV W H ac up a b pn qn = if okDA W H ac up a b pn qn then distAV W H ac up a b pn qn else 0 from rfl)
    have HPA := Lib.hid HPR
    obtain ⟨d, hd⟩ : ∃ d, distAV W H ac up a b (pn : Int) (qn : Int) = d := ⟨_, rfl⟩
    rw [hd] at hd1 hd2 hd3 HOK HV
    have HD1 := Lib.hid hd1
    clear hd hd1 HPR
    have HDIS := Lib.hid (fun lo0 mb w' (hm : OnMap w' lo0 mb (upTo N) (leapsA W H ac up a b)) => distance_any lo0 mb (upTo N) (leapsA W H ac up a b) pn qn d w' hm (by omega) (upTo_mem.2 HPA.out) (fun x hx => by have := upTo_mem.1 hx; omega) (adjA_in HF.out) (by omega) (by rw [far144 HF.out HPA.out, List.length_append, HLN.out, List.length_replicate]; omega) (by rw [far144 HF.out HPA.out, List.getElem?_append_left (by rw [HLN.out]; exact hqN)]; exact HD1.out) ⟨hd2, hd3⟩)
    go_enter Try.func33, Try.ntmps33
    go_wp2_with fail
    rw [← hW2]
    clear hW2
    refine (isLeaperAround_any W H ac up a b _ 2 2 _ _ RQ.out).mono ?_
    rw [HE.out, hq]
    rintro e wv ⟨rfl, hb⟩
    replace a0 := cell_keep a0 al hb
    replace a1 := cell_keep a1 al hb
    replace a2 := cell_keep a2 al hb
    replace a3 := cell_keep a3 al hb
    replace al := lt_keep al hb
    replace l0 := cell_keep l0 ll hb
    replace l1 := cell_keep l1 ll hb
    replace ll := lt_keep ll hb
    replace B := Lib.hid (below_next B.out hb)
    clear hb
    clear RQ HE
    go_wp2_with fail
    refine (onwardAround_any W H ac up a b _ HF.out.g HF.out.l).mono ?_
    rintro e wx ⟨mb, rfl, hom, hb⟩
    rw [hN] at hom
    have HOM := Lib.hid hom
    replace B := Lib.hid (below_next B.out hb)
    clear hom hb
    clear a0 a1 a2 a3 l0 l1 al ll
    go_wp2_with fail
    refine (HDIS.out _ mb _ HOM.out).mono ?_
    rintro e wy ⟨rfl, hb⟩
    replace B := Lib.hid (below_next B.out hb)
    clear hb
    go_wp2
    go_ret2
    exact ⟨by rw [HV.out, HOK.out, ← dAns_eq hd2, ← dOk_eq hd2]; rfl, B.out⟩

end Go.Proofs.Ytaliknhfcdmohaa

namespace Go.Proofs.Ytaliknhfcdmohaa
open Go.RowKit

theorem upTo_key (k : Nat) : (fun y : Int => if y = (k : Int) then true else decide (y ∈ upTo k)) = fun y => decide (y ∈ upTo (k + 1)) := by
  funext y
  by_cases e : y = (k : Int)
  · subst e; rw [if_pos rfl]; symm; rw [decide_eq_true_eq, upTo_mem]; omega
  · rw [if_neg e, Bool.eq_iff_iff, decide_eq_true_eq, decide_eq_true_eq, upTo_mem, upTo_mem]; omega
theorem upTo_none : (fun _ : Int => false) = fun y => decide (y ∈ upTo 0) := by funext y; simp [upTo]


set_option maxRecDepth 100000 in
set_option maxHeartbeats 2000000 in
theorem onwardAroundK_any (W H : Int) (ac up : Bool) (a b : Int) (w : World) (hg : goodA W H = true) (hl : leaperB a b = true) :
    Calls Try.prog 67 #[ard W H ac up, lpr a b] w fun e w' => ∃ mb, e = .returned (.map (some mb)) ∧ OnMapK w' w.heap.size mb (upTo (W * H).toNat) (leapsA W H ac up a b) ∧ Below w.heap.size w w' := by
  have HG := Lib.hid hg; have HL := Lib.hid hl
  have hA := areaA hg
  obtain ⟨A1, A2⟩ := hA
  obtain ⟨N, hN⟩ : ∃ N : Nat, W * H = (N : Int) := ⟨(W * H).toNat, by omega⟩
  have hNn := Lib.hid (show (W * H).toNat = N by omega)
  have HWH := Lib.hid hN
  have N2 : N ≤ 144 := by omega
  have HSZ := Lib.hid (fun w' => sizeA_any W H ac up w' hg)
  rw [hN] at HSZ
  clear hg hl hN A1 A2
  obtain ⟨W2, hW2⟩ : ∃ W2, W2 = ((w.alloc (.cells #[.int .i64 W, .int .i64 H, .bool ac, .bool up] 25)).alloc (.cells #[.int .i64 a, .int .i64 b] 36)).alloc (.map #[] 0) := ⟨_, rfl⟩
  have hsz : W2.heap.size = w.heap.size + 3 := by rw [hW2]; simp
  have a0 : W2.cell? ⟨w.heap.size, 0, none⟩ = some (.int .i64 W) := by rw [hW2]; go_simp
  have a1 : W2.cell? ⟨w.heap.size, 1, none⟩ = some (.int .i64 H) := by rw [hW2]; go_simp
  have a2 : W2.cell? ⟨w.heap.size, 2, none⟩ = some (.bool ac) := by rw [hW2]; go_simp
  have a3 : W2.cell? ⟨w.heap.size, 3, none⟩ = some (.bool up) := by rw [hW2]; go_simp
  have al : w.heap.size < W2.heap.size := by omega
  have l0 : W2.cell? ⟨w.heap.size + 1, 0, none⟩ = some (.int .i64 a) := by rw [hW2]; go_simp
  have l1 : W2.cell? ⟨w.heap.size + 1, 1, none⟩ = some (.int .i64 b) := by rw [hW2]; go_simp
  have ll : w.heap.size + 1 < W2.heap.size := by omega
  have B := Lib.hid (show Below w.heap.size w W2 by rw [hW2]; repeat (first | exact Below.refl _ _ | refine below_new ?_ _))
  have MP := Lib.hid (show MapK Try.prog 3 W2 (w.heap.size + 1 + 1) 0 (.slice none 0 0) (fun _ => .slice none 0 0) (fun y => decide (y ∈ upTo 0)) by
    rw [hW2, ← upTo_none]
    have := MapK.made Try.prog 3 ((w.alloc (.cells #[.int .i64 W, .int .i64 H, .bool ac, .bool up] 25)).alloc (.cells #[.int .i64 a, .int .i64 b] 36)) (.slice none 0 0)
    simpa using this)
  have hmm := @run_makeMap Try.prog
  go_enter Try.func67, Try.ntmps67
  go_wp2_with fail
  rw [← hW2]
  obtain ⟨mb, hmb⟩ : ∃ mb, mb = w.heap.size + 1 + 1 := ⟨_, rfl⟩
  rw [← hmb] at MP ⊢
  have hmb1 : w.heap.size + 2 ≤ mb := by omega
  have hmb2 : mb < W2.heap.size := by omega
  clear hW2 hmm hmb hsz
  refine (HSZ.out _).mono ?_
  rintro e ws ⟨rfl, hb⟩
  replace a0 := cell_keep a0 al hb
  replace a1 := cell_keep a1 al hb
  replace a2 := cell_keep a2 al hb
  replace a3 := cell_keep a3 al hb
  replace al := lt_keep al hb
  replace l0 := cell_keep l0 ll hb
  replace l1 := cell_keep l1 ll hb
  replace ll := lt_keep ll hb
  replace B := Lib.hid (below_next B.out hb)
  replace MP := Lib.hid (MP.out.keep hb)
  have hmlt : mb < ws.heap.size := Nat.lt_of_lt_of_le hmb2 hb.size
  clear hb
  go_wp2
  go_loopw [10] (fun i wr => ∃ (k : Nat) (f : Int → Value), k ≤ N ∧ i = .int .i64 k ∧ MapK Try.prog 3 wr mb k (.slice none 0 0) f (fun y => decide (y ∈ upTo k)) ∧ (∀ x ∈ upTo k, RowAt wr w.heap.size mb (f x) (leapsA W H ac up a b x)) ∧ ws.grownBy wr (some mb)) (fun i _ => N - (intOf i).toNat)
  case atStart => exact ⟨0, _, by omega, rfl, MP.out, (fun x hx => by simp [upTo] at hx), grown_refl _ _⟩
  case round =>
    obtain ⟨k, f, hk, rfl, hm, hrows, hgw⟩ := hrel
    have hBw : Below w.heap.size w wr := B.out.trans (below_of_grown hgw (by omega) (fun g h => by injection h with h; omega))
    have HM := Lib.hid hm; have HR := Lib.hid hrows
    have HGW := Lib.hid hgw
    have hsw := hgw.size
    clear hm hrows
    by_cases hlt : k < N
    · have b0 := hgw.cell a0 (by simp; omega); have b1 := hgw.cell a1 (by simp; omega); have b2 := hgw.cell a2 (by simp; omega); have b3 := hgw.cell a3 (by simp; omega); have c0 := hgw.cell l0 (by simp; omega); have c1 := hgw.cell l1 (by simp; omega)
      have HBW := Lib.hid hBw
      clear hgw hBw
      go_wp2_with fail
      refine (leapsAround_any W H ac up a b (k : Int) _ HG.out HL.out ⟨by omega, by rw [HWH.out]; omega⟩).mono ?_
      rintro e wv ⟨A3, n3, c3, rfl, hl3, hb⟩
      have hn3 : n3 ≤ 64 := by have h1 := leapsA_len (W := W) (H := H) (ac := ac) (up := up) (q := (k : Int)) HL.out; have h2 := hl3.len; omega
      have HL3 := Lib.hid hl3
      replace HM := Lib.hid (HM.out.keep hb)
      replace HR := Lib.hid (fun y hy => (HR.out y hy).keep hb)
      replace HGW := Lib.hid (grown_next HGW.out (grown_of_below hb (some mb)))
      have hsv := hb.size
      clear hl3 hb b0 b1 b2 b3 c0 c1
      go_wp2_with (at_mapUpdate; refine wpList_updateK rfl (.tmp 13) (.tmp 14) (.tmp 18) rfl Try.underlying3 Try.underlying71 rfl HM.out (by omega) (k : Int) (.slice A3 n3 c3) rfl rfl (wf_small ⟨by omega, by omega⟩) ?_; intro w2 hm2 hg2)
      have HM2 := Lib.hid hm2; have HG2 := Lib.hid hg2
      clear hm2 hg2
      go_wp2
      go_roundw
      case rel =>
        refine ⟨k + 1, _, by omega, by go_num, by rw [← upTo_key]; exact HM2.out, fun y hy => ?_, grown_next HGW.out HG2.out⟩
        rw [upTo_mem] at hy
        by_cases hne : y = (k : Int)
        · subst hne
          rw [if_pos rfl]
          have hrow : RowAt _ w.heap.size mb (.slice A3 n3 c3) (leapsA W H ac up a b k) := ⟨A3, n3, c3, rfl, HL3.out.rd, hn3, fun z hz => by
            rcases HL3.out.form with ⟨h, _⟩ | ⟨g, h, h2, h3, _⟩
            · rw [h] at hz; cases hz
            · rw [h] at hz; injection hz with hz; rw [← hz]; exact ⟨by show w.heap.size ≤ g; omega, h3, by show g ≠ mb; omega⟩⟩
          exact hrow.other HG2.out
        · rw [if_neg hne]
          exact (HR.out y (upTo_mem.2 ⟨hy.1, by omega⟩)).other HG2.out
      case measure => simp [intOf]; omega
    · have ek : k = N := by omega
      subst ek
      have HBW := Lib.hid hBw
      have HRR := Lib.hid (show OnMapK wr w.heap.size mb (upTo k) (leapsA W H ac up a b) from ⟨by omega, k, f, by omega, HM.out, HR.out⟩)
      clear hBw hgw
      go_wp2
      go_ret
      exact ⟨mb, rfl, by rw [hNn.out]; exact HRR.out, HBW.out⟩

end Go.Proofs.Ytaliknhfcdmohaa

namespace Go.Proofs.Ytaliknhfcdmohaa
open Go.RowKit

theorem upTo_at {N k : Nat} (h : k < N) : (upTo N)[k]? = some (k : Int) := by simp [upTo, h]
theorem upTo_length (N : Nat) : (upTo N).length = N := by simp [upTo]
theorem partG_at {W H a b : Int} {ac up : Bool} {N s i : Nat} (h : ArFacts W H a b N) (hs : s < N) (hi : i < N) : (partG (leapsA W H ac up a b) (s : Int)).contains (i : Int) = decide (0 ≤ (distA W H ac up a b (s : Int)).getD i (-1)) := by
  have := h.n
  unfold partG reachL
  rw [sel_contains (by omega), far144 h (by omega), getD_pad]
def partsN (W H : Int) (ac up : Bool) (a b : Int) : Nat := (gAll (partG (leapsA W H ac up a b)) (upTo (W * H).toNat)).length
def cpV (W H : Int) (ac up : Bool) (a b : Int) : Int := if twoA W H a b then (partsN W H ac up a b : Int) else 0
theorem cpV_no {W H a b : Int} {ac up : Bool} (h : twoA W H a b = false) : cpV W H ac up a b = 0 := by rw [cpV, h]; rfl

set_option maxRecDepth 100000 in
set_option maxHeartbeats 4000000 in
theorem spec_CountParts (W H : Int) (ac up : Bool) (a b : Int) (w : World) :
    Calls Try.prog 36 #[ard W H ac up, lpr a b] w fun e w' => e = .returned (.tuple #[.int .i64 (cpV W H ac up a b), .bool (twoA W H a b)]) ∧ Below w.heap.size w w' := by
  obtain ⟨ib, hib, hy0, hy1, hy2⟩ := info_parts infoBl
  have HIB := Lib.hid hib; have HY0 := Lib.hid hy0; have HY1 := Lib.hid hy1; have HY2 := Lib.hid hy2
  clear hib hy0 hy1 hy2
  obtain ⟨W2, hW2⟩ : ∃ W2, W2 = (w.alloc (.cells #[.int .i64 W, .int .i64 H, .bool ac, .bool up] 25)).alloc (.cells #[.int .i64 a, .int .i64 b] 36) := ⟨_, rfl⟩
  have hsz : W2.heap.size = w.heap.size + 2 := by rw [hW2]; simp
  have a0 : W2.cell? ⟨w.heap.size, 0, none⟩ = some (.int .i64 W) := by rw [hW2]; go_simp
  have a1 : W2.cell? ⟨w.heap.size, 1, none⟩ = some (.int .i64 H) := by rw [hW2]; go_simp
  have a2 : W2.cell? ⟨w.heap.size, 2, none⟩ = some (.bool ac) := by rw [hW2]; go_simp
  have a3 : W2.cell? ⟨w.heap.size, 3, none⟩ = some (.bool up) := by rw [hW2]; go_simp
  have al : w.heap.size < W2.heap.size := by omega
  have l0 : W2.cell? ⟨w.heap.size + 1, 0, none⟩ = some (.int .i64 a) := by rw [hW2]; go_simp
  have l1 : W2.cell? ⟨w.heap.size + 1, 1, none⟩ = some (.int .i64 b) := by rw [hW2]; go_simp
  have ll : w.heap.size + 1 < W2.heap.size := by omega
  have B := Lib.hid (show Below w.heap.size w W2 by rw [hW2]; repeat (first | exact Below.refl _ _ | refine below_new ?_ _))
  cases ht : twoA W H a b
  · have OK := Lib.hid ht
    go_enter Try.func36, Try.ntmps36
    go_wp2_with fail
    rw [← hW2]
    clear hW2
    refine (arTwo_any _ _ _ _ _ _ _).mono ?_
    rw [ht]
    rintro e wv ⟨rfl, hb⟩
    replace a0 := cell_keep a0 al hb
    replace a1 := cell_keep a1 al hb
    replace a2 := cell_keep a2 al hb
    replace a3 := cell_keep a3 al hb
    replace al := lt_keep al hb
    replace l0 := cell_keep l0 ll hb
    replace l1 := cell_keep l1 ll hb
    replace ll := lt_keep ll hb
    replace B := Lib.hid (below_next B.out hb)
    clear hb
    clear a0 a1 a2 a3 l0 l1 al ll
    go_wp2
    go_ret2
    exact ⟨by rw [cpV_no OK.out]; rfl, B.out⟩
  · have HT := Lib.hid ht
    have HF := Lib.hid (ar_facts ht)
    obtain ⟨N, hN⟩ : ∃ N, (W * H).toNat = N := ⟨_, rfl⟩
    rw [hN] at HF
    have hWH := HF.out.wh
    have N2 := HF.out.n.2
    have N1 := HF.out.n.1
    have hN0 : (0 : Int) ≤ (N : Int) := by omega
    have HNN := Lib.hid hN
    have HV := Lib.hid (show cpV W H ac up a b = ((gAll (partG (leapsA W H ac up a b)) (upTo N)).length : Int) by rw [cpV, ht, ← hN]; rfl)
    clear hN
    go_enter Try.func36, Try.ntmps36
    go_wp2_with fail
    rw [← hW2]
    clear hW2
    refine (arTwo_any _ _ _ _ _ _ _).mono ?_
    rw [ht]
    rintro e wv ⟨rfl, hb⟩
    replace a0 := cell_keep a0 al hb
    replace a1 := cell_keep a1 al hb
    replace a2 := cell_keep a2 al hb
    replace a3 := cell_keep a3 al hb
    replace al := lt_keep al hb
    replace l0 := cell_keep l0 ll hb
    replace l1 := cell_keep l1 ll hb
    replace ll := lt_keep ll hb
    replace B := Lib.hid (below_next B.out hb)
    clear hb
    have hfa : w.heap.size + 1 < wv.heap.size := ll
    go_wp2_with (at_make; refine wpList_make_full _ rfl _ _ 78 rfl wv.heap.size 4 ib (.bool false) 1 Try.underlying78 HIB.out HY0.out HY1.out .i64 .i64 _ _ N rfl rfl rfl rfl (by rw [HY2.out]; omega) (by unfold maxLen; omega) (by simp) ?_; intro w1 hown1 hg1)
    have hb1 : Below wv.heap.size wv w1 := below_of_grown hg1 (Nat.le_refl _) (by simp)
    have hO1 : OwnB 4 w1 wv.heap.size (some ⟨wv.heap.size, 0, none⟩) N N (boolRow (fun _ => false) N) := by
      unfold OwnB
      rw [show N * 1 = N from by omega] at hown1
      have e : (madeCells (Value.cells (.bool false)) N).toList = List.replicate N (.bool false) := toList_madeCells_one (.bool false) N
      rw [e] at hown1
      have e2 : (boolRow (fun _ => false) N).map Value.bool = List.replicate N (.bool false) := by
        rw [boolRow, List.map_map, List.eq_replicate_iff]
        exact ⟨by simp, fun v hv => by obtain ⟨i, _, rfl⟩ := List.mem_map.1 hv; rfl⟩
      rw [e2]
      exact hown1
    replace a0 := cell_keep a0 al hb1
    replace a1 := cell_keep a1 al hb1
    replace a2 := cell_keep a2 al hb1
    replace a3 := cell_keep a3 al hb1
    replace al := lt_keep al hb1
    replace l0 := cell_keep l0 ll hb1
    replace l1 := cell_keep l1 ll hb1
    replace ll := lt_keep ll hb1
    replace B := Lib.hid (below_next B.out hb1)
    clear hb1
    obtain ⟨fb, hfb⟩ : ∃ fb, fb = wv.heap.size := ⟨_, rfl⟩
    rw [← hfb] at hO1 ⊢
    have SEEN := Lib.hid hO1
    have hfw : w.heap.size + 1 < fb := by omega
    have HBF := Lib.hid (show w.heap.size ≤ fb by omega)
    have hfb2 : fb < w1.heap.size := by
      obtain ⟨cur, h⟩ := row_block hO1
      exact (Array.getElem?_eq_some_iff.1 h).1
    obtain ⟨P, hP⟩ : ∃ P, P = partG (leapsA W H ac up a b) := ⟨_, rfl⟩
    have HP := Lib.hid hP
    rw [← hP] at HV
    have hBs := B.out.size
    clear hfb hown1 hg1 hO1 hP hfa
    go_loopw [7, 23] (fun v i wr => ∃ k : Nat, k ≤ N ∧ i = .int .i64 k ∧ v = .int .i64 ((gTo P (upTo N) k).length : Int) ∧ OwnB 4 wr fb (some ⟨fb, 0, none⟩) N N (boolRow (fun i => inParts (gTo P (upTo N) k) (i : Int)) N) ∧ w1.grownBy wr (some fb)) (fun _ i _ => N - (intOf i).toNat)
    case atStart => exact ⟨0, by omega, rfl, rfl, SEEN.out, grown_refl _ _⟩
    case round =>
      clear SEEN
      obtain ⟨k, hk, rfl, rfl, hseen, hgw⟩ := hrel
      have hsw := hgw.size
      have hq9 := gTo_len P (upTo N) k
      have SE := Lib.hid hseen
      by_cases hlt : k < N
      · have HX := Lib.hid (upTo_at hlt)
        have hx0 : (0 : Int) ≤ (k : Int) := by omega
        have hx1 : (k : Int) < (N : Int) := by omega
        have b0 := hgw.cell a0 (by simp; omega); have b1 := hgw.cell a1 (by simp; omega); have b2 := hgw.cell a2 (by simp; omega); have b3 := hgw.cell a3 (by simp; omega); have m0 := hgw.cell l0 (by simp; omega); have m1 := hgw.cell l1 (by simp; omega)
        have HGW := Lib.hid hgw
        have s0 : wr.cell? ⟨fb, k, none⟩ = some (.bool (inParts (gTo P (upTo N) k) (k : Int))) := hseen.cell (boolRow_at (f := fun i => inParts (gTo P (upTo N) k) (i : Int)) hlt)
        obtain ⟨q, hq⟩ : ∃ q, q = (gTo P (upTo N) k).length := ⟨_, rfl⟩
        rw [← hq] at hq9 ⊢
        have HQ := Lib.hid hq
        clear hseen hgw hq
        cases hip : inParts (gTo P (upTo N) k) (k : Int) with
        | true =>
          rw [hip] at s0
          have HIP := Lib.hid hip
          clear hip
          go_wp2
          go_roundw
          case rel =>
            have e := gTo_yes HX.out HIP.out
            exact ⟨k + 1, by omega, by go_num, by rw [e, ← HQ.out], by rw [e]; exact SE.out, HGW.out⟩
          case measure => simp [intOf]; omega
        | false =>
          rw [hip] at s0
          have HIP := Lib.hid hip
          clear hip
          go_wp2_with fail
          refine (arFrom_any W H ac up a b k N _ HF.out.g HF.out.l HF.out.wh hlt).mono ?_
          rintro e wu ⟨g, rfl, own, hb⟩
          rw [show farL (leapsA W H ac up a b) N (k : Int) = distA W H ac up a b (k : Int) by rw [distA, HNN.out]] at own
          have hpl : ∀ i, i < N → (P (k : Int)).contains (i : Int) = decide (0 ≤ (distA W H ac up a b (k : Int)).getD i (-1)) := fun i hi => by rw [HP.out]; exact partG_at HF.out hlt hi
          obtain ⟨D, hD⟩ : ∃ D, D = distA W H ac up a b (k : Int) := ⟨_, rfl⟩
          rw [← hD] at own hpl
          have HPL := Lib.hid hpl
          have DLEN := Lib.hid own.len
          have hgf : g ≠ fb := rows_apart (by decide : 3 ≠ 4) own (SE.out.keep hb)
          have hgv : g < wu.heap.size := by obtain ⟨g9, h1, _, h2⟩ := own.some_ (k := 0) (by omega); injection h1 with h1; injection h1 with h1; omega
          have FAR := Lib.hid own
          replace SE := Lib.hid (SE.out.keep hb)
          have hvs := hb.size
          replace HGW := Lib.hid (grown_next HGW.out (grown_of_below hb (some fb)))
          clear hb own hpl hD s0 b0 b1 b2 b3 m0 m1
          go_wp2
          go_loopw [37] (fun i wr => ∃ j : Nat, j ≤ N ∧ i = .int .i64 j ∧ OwnB 4 wr fb (some ⟨fb, 0, none⟩) N N (boolRow (fun i => inParts (gTo P (upTo N) k) (i : Int) || (decide (i < j) && decide (0 ≤ D.getD i (-1)))) N) ∧ wu.grownBy wr (some fb)) (fun i _ => N - (intOf i).toNat)
          case atStart => exact ⟨0, by omega, rfl, by rw [boolRow_congr (g := fun i => inParts (gTo P (upTo N) k) (i : Int)) (fun i _ => by simp)]; exact SE.out, grown_refl _ _⟩
          case round =>
            clear SE
            obtain ⟨j, hj, rfl, hse, hgx⟩ := hrel
            have hsx := hgx.size
            by_cases hjl : j < N
            · obtain ⟨y, hy⟩ : ∃ y, D[j]? = some y := ⟨_, List.getElem?_eq_getElem (show j < D.length by have := DLEN.out; omega)⟩
              have y0 := hgx.cell (FAR.out.cell hy) (by simp; omega)
              have HGD := Lib.hid (show D.getD j (-1) = y by rw [List.getD_eq_getElem?_getD, hy]; rfl)
              have hj0 : (0 : Int) ≤ (j : Int) := by omega
              have hj1 : (j : Int) < (N : Int) := by omega
              have HSE := Lib.hid hse; have HGX := Lib.hid hgx
              by_cases hy0 : 0 ≤ y
              · obtain ⟨sv, hsv⟩ : ∃ sv, (boolRow (fun i : Nat => inParts (gTo P (upTo N) k) (i : Int) || (decide (i < j) && decide (0 ≤ D.getD i (-1)))) N)[j]? = some sv := ⟨_, boolRow_at hjl⟩
                have s5 := hse.cell hsv
                have f5 := hse.frozen j
                obtain ⟨o1, g1⟩ := hse.stored j true
                rw [boolRow_set, boolRow_congr (g := fun i : Nat => inParts (gTo P (upTo N) k) (i : Int) || (decide (i < j + 1) && decide (0 ≤ D.getD i (-1)))) (fun i _ => by
                  by_cases e : i = j
                  · subst e; rw [if_pos rfl, HGD.out]; simp [hy0]
                  · rw [if_neg e, show decide (i < j + 1) = decide (i < j) by rw [decide_eq_decide]; omega])] at o1
                have SE6 := Lib.hid o1
                have HG6 := Lib.hid (grown_next HGX.out g1)
                clear o1 g1 hsv hy hse hgx
                go_wp2
                go_roundw
                case rel => exact ⟨j + 1, by omega, by go_num, SE6.out, HG6.out⟩
                case measure => simp [intOf]; omega
              · clear hy hse hgx
                go_wp2
                go_roundw
                case rel => exact ⟨j + 1, by omega, by go_num, by
                  rw [boolRow_congr (g := fun i => inParts (gTo P (upTo N) k) (i : Int) || (decide (i < j) && decide (0 ≤ D.getD i (-1)))) (fun i _ => by
                    by_cases e : i = j
                    · subst e; rw [HGD.out]; simp [hy0]
                    · rw [show decide (i < j + 1) = decide (i < j) by rw [decide_eq_decide]; omega])]
                  exact HSE.out, HGX.out⟩
                case measure => simp [intOf]; omega
            · obtain rfl : j = N := by omega
              have HSE := Lib.hid hse; have HGX := Lib.hid (grown_next HGW.out hgx)
              clear hse hgx
              go_wp2
              go_roundw
              case rel =>
                have e := gTo_no HX.out HIP.out
                refine ⟨k + 1, by omega, by go_num, by rw [e, List.length_append, ← HQ.out]; go_num, ?_, HGX.out⟩
                rw [e, boolRow_congr (g := fun i : Nat => inParts (gTo P (upTo j) k) (i : Int) || (decide (i < j) && decide (0 ≤ D.getD i (-1)))) (fun i hi => by rw [inParts_app, HPL.out i hi, show decide (i < j) = true by simpa using hi]; simp)]
                exact HSE.out
              case measure => simp [intOf]; omega
      · obtain rfl : k = N := by omega
        have eP : gTo P (upTo k) k = gAll P (upTo k) := by rw [gTo, List.take_of_length_le (by rw [upTo_length]; exact Nat.le_refl _)]; rfl
        have HBW := Lib.hid (B.out.trans (below_of_grown hgw hBs (fun g h => by injection h with h; have := HBF.out; omega)))
        have HEP := Lib.hid eP
        clear hgw hseen SE eP
        go_wp2
        go_ret2
        exact ⟨by rw [HV.out, ← HEP.out]; rfl, HBW.out⟩

set_option maxRecDepth 100000 in
set_option maxHeartbeats 2000000 in
theorem impl_CountParts (W H : Int) (ac up : Bool) (a b : Int) (w : World) :
    Calls Try.prog 37 #[ard W H ac up, lpr a b] w fun e w' => e = .returned (.tuple #[.int .i64 (cpV W H ac up a b), .bool (twoA W H a b)]) ∧ Below w.heap.size w w' := by
  obtain ⟨W2, hW2⟩ : ∃ W2, W2 = (w.alloc (.cells #[.int .i64 W, .int .i64 H, .bool ac, .bool up] 25)).alloc (.cells #[.int .i64 a, .int .i64 b] 36) := ⟨_, rfl⟩
  have hsz : W2.heap.size = w.heap.size + 2 := by rw [hW2]; simp
  have a0 : W2.cell? ⟨w.heap.size, 0, none⟩ = some (.int .i64 W) := by rw [hW2]; go_simp
  have a1 : W2.cell? ⟨w.heap.size, 1, none⟩ = some (.int .i64 H) := by rw [hW2]; go_simp
  have a2 : W2.cell? ⟨w.heap.size, 2, none⟩ = some (.bool ac) := by rw [hW2]; go_simp
  have a3 : W2.cell? ⟨w.heap.size, 3, none⟩ = some (.bool up) := by rw [hW2]; go_simp
  have al : w.heap.size < W2.heap.size := by omega
  have l0 : W2.cell? ⟨w.heap.size + 1, 0, none⟩ = some (.int .i64 a) := by rw [hW2]; go_simp
  have l1 : W2.cell? ⟨w.heap.size + 1, 1, none⟩ = some (.int .i64 b) := by rw [hW2]; go_simp
  have ll : w.heap.size + 1 < W2.heap.size := by omega
  have B := Lib.hid (show Below w.heap.size w W2 by rw [hW2]; repeat (first | exact Below.refl _ _ | refine below_new ?_ _))
  have HE := Lib.hid (show (leaperB a b && aroundB W H []) = twoA W H a b by rw [aroundB_nil]; rfl)
  cases ht : twoA W H a b
  · have OK := Lib.hid ht
    go_enter Try.func37, Try.ntmps37
    go_wp2_with fail
    rw [← hW2]
    clear hW2
    refine (isLeaperAround_any W H ac up a b none 0 0 [] _ (Rd.nil _ _)).mono ?_
    rw [HE.out, ht]
    rintro e wv ⟨rfl, hb⟩
    replace a0 := cell_keep a0 al hb
    replace a1 := cell_keep a1 al hb
    replace a2 := cell_keep a2 al hb
    replace a3 := cell_keep a3 al hb
    replace al := lt_keep al hb
    replace l0 := cell_keep l0 ll hb
    replace l1 := cell_keep l1 ll hb
    replace ll := lt_keep ll hb
    replace B := Lib.hid (below_next B.out hb)
    clear hb
    clear HE
    clear a0 a1 a2 a3 l0 l1 al ll
    go_wp2
    go_ret2
    exact ⟨by rw [cpV_no OK.out]; rfl, B.out⟩
  · have HT := Lib.hid ht
    have HF := Lib.hid (ar_facts ht)
    obtain ⟨N, hN⟩ : ∃ N, (W * H).toNat = N := ⟨_, rfl⟩
    rw [hN] at HF
    have hWH := HF.out.wh
    have N2 := HF.out.n.2
    have N1 := HF.out.n.1
    have hN0 : (0 : Int) ≤ (N : Int) := by omega
    have HNN := Lib.hid hN
    have HV := Lib.hid (show cpV W H ac up a b = ((gAll (partG (leapsA W H ac up a b)) (upTo N)).length : Int) by rw [cpV, ht, ← hN]; rfl)
    clear hN
    go_enter Try.func37, Try.ntmps37
    go_wp2_with fail
    rw [← hW2]
    clear hW2
    refine (isLeaperAround_any W H ac up a b none 0 0 [] _ (Rd.nil _ _)).mono ?_
    rw [HE.out, ht]
    rintro e wv ⟨rfl, hb⟩
    replace a0 := cell_keep a0 al hb
    replace a1 := cell_keep a1 al hb
    replace a2 := cell_keep a2 al hb
    replace a3 := cell_keep a3 al hb
    replace al := lt_keep al hb
    replace l0 := cell_keep l0 ll hb
    replace l1 := cell_keep l1 ll hb
    replace ll := lt_keep ll hb
    replace B := Lib.hid (below_next B.out hb)
    clear hb
    clear HE
    go_wp2_with fail
    refine (onwardAroundK_any W H ac up a b _ HF.out.g HF.out.l).mono ?_
    rintro e wx ⟨mb, rfl, hom, hb⟩
    rw [HNN.out] at hom
    replace B := Lib.hid (below_next B.out hb)
    clear hb
    clear a0 a1 a2 a3 l0 l1 al ll
    go_wp2_with fail
    refine (parts_any (upTo N) (leapsA W H ac up a b) _ mb _ hom (upTo_pairwise N) (fun x hx => by have := upTo_mem.1 hx; omega) (adjA_in HF.out) (by rw [upTo_length]; exact N2)).mono ?_
    rintro e wy ⟨A', n', c', top, rfl, hpa, hb⟩
    have HLE := Lib.hid hpa.len
    replace B := Lib.hid (below_next B.out hb)
    clear hb hom hpa
    go_wp2
    go_ret2
    exact ⟨by rw [HV.out, HLE.out]; rfl, B.out⟩

end Go.Proofs.Ytaliknhfcdmohaa

namespace Go.Proofs.Ytaliknhfcdmohaa

/-! ### Levels of the search in width -/
def Fv (far : List Int) (x : Int) : Int := far.getD x.toNat 0
structure Lv (adj : Int → List Int) (start : Int) (far q : List Int) : Prop where
  mono : (q.map (Fv far)).Pairwise (· ≤ ·)
  pred : ∀ y ∈ q, y = start ∨ ∃ x ∈ q, y ∈ adj x ∧ Fv far y = Fv far x + 1
theorem mono_get {far q : List Int} (h : (q.map (Fv far)).Pairwise (· ≤ ·)) {i j : Nat} {x y : Int} (hij : i < j) (hx : q[i]? = some x) (hy : q[j]? = some y) : Fv far x ≤ Fv far y := by
  obtain ⟨b1, g1⟩ := List.getElem?_eq_some_iff.1 hx
  obtain ⟨b2, g2⟩ := List.getElem?_eq_some_iff.1 hy
  have := List.pairwise_iff_getElem.1 h i j (by rw [List.length_map]; exact b1) (by rw [List.length_map]; exact b2) hij
  rw [List.getElem_map, List.getElem_map, g1, g2] at this
  exact this
theorem Fv_keeps {d x : Int} {l far q : List Int} (h : 0 ≤ Fv far x) : Fv (visit d l (far, q)).1 x = Fv far x := visit_keeps l far q h
theorem visit_lv {adj : Int → List Int} {start c d : Int} {N : Nat} : ∀ (l far q : List Int) (B : Int), (∀ x ∈ l, (0 ≤ x ∧ x < N) ∧ x ∈ adj c) → BfsOk N B far q → Known far q → 0 ≤ d → d + 1 ≤ B → c ∈ q → Fv far c = d → (∀ y ∈ q, Fv far y ≤ d + 1) → Lv adj start far q →
    Lv adj start (visit d l (far, q)).1 (visit d l (far, q)).2 ∧ (∀ y ∈ (visit d l (far, q)).2, Fv (visit d l (far, q)).1 y ≤ d + 1) ∧ ∀ y ∈ l, Fv (visit d l (far, q)).1 y ≤ d + 1
  | [], far, q, B, _, _, _, _, _, _, _, h1, h2 => ⟨h2, h1, by simp⟩
  | x :: t, far, q, B, hl, ok, hk, hd, hB, hc, hcd, hb, lv => by
    have hx := hl x List.mem_cons_self
    have ht : ∀ y ∈ t, (0 ≤ y ∧ y < N) ∧ y ∈ adj c := fun y hy => hl y (List.mem_cons_of_mem _ hy)
    have hlen := ok.len
    rw [visit]
    by_cases hf : far.getD x.toNat 0 < 0
    · rw [if_pos hf]
      have hne : ∀ y ∈ q, y.toNat ≠ x.toNat := fun y hy e => by
        have := ok.seen y hy
        rw [e] at this; omega
      have hF : ∀ y ∈ q, Fv (far.set x.toNat (d + 1)) y = Fv far y := fun y hy => getD_set_ne (fun e => hne y hy e.symm)
      have hFx : Fv (far.set x.toNat (d + 1)) x = d + 1 := getD_set_same (by omega)
      have ok' := ok.push hx.1 (by omega : 0 ≤ d + 1 ∧ d + 1 ≤ B) hf
      have hk' : Known (far.set x.toNat (d + 1)) (q ++ [x]) := fun i hi => by
        by_cases e : i = x.toNat
        · subst e; simp; right; omega
        · have : (far.set x.toNat (d + 1)).getD i (-1) = far.getD i (-1) := by
            rw [List.getD_eq_getElem?_getD, List.getElem?_set_ne (Ne.symm e), ← List.getD_eq_getElem?_getD]
          rw [this] at hi
          exact List.mem_append_left _ (hk i hi)
      have lv' : Lv adj start (far.set x.toNat (d + 1)) (q ++ [x]) := by
        refine ⟨?_, fun y hy => ?_⟩
        · rw [List.map_append, List.map_congr_left hF, List.pairwise_append]
          refine ⟨lv.mono, by simp, fun u hu v hv => ?_⟩
          obtain ⟨y, hy, rfl⟩ := List.mem_map.1 hu
          have : v = d + 1 := by simpa [hFx] using hv
          have := hb y hy; omega
        · rcases List.mem_append.1 hy with hy | hy
          · rcases lv.pred y hy with h | ⟨z, hz, h1, h2⟩
            · exact .inl h
            · exact .inr ⟨z, List.mem_append_left _ hz, h1, by rw [hF y hy, hF z hz]; exact h2⟩
          · have : y = x := by simpa using hy
            subst this
            exact .inr ⟨c, List.mem_append_left _ hc, hx.2, by rw [hFx, hF c hc, hcd]⟩
      obtain ⟨r1, r2, r3⟩ := visit_lv t (far.set x.toNat (d + 1)) (q ++ [x]) B ht ok' hk' hd hB (List.mem_append_left _ hc) (by rw [hF c hc]; exact hcd)
        (fun y hy => by
          rcases List.mem_append.1 hy with hy | hy
          · rw [hF y hy]; exact hb y hy
          · have : y = x := by simpa using hy
            subst this; rw [hFx]; omega) lv'
      refine ⟨r1, r2, fun y hy => ?_⟩
      rcases List.mem_cons.1 hy with rfl | hy
      · rw [Fv_keeps (by rw [hFx]; omega), hFx]; omega
      · exact r3 y hy
    · rw [if_neg hf]
      obtain ⟨r1, r2, r3⟩ := visit_lv t far q B ht ok hk hd hB hc hcd hb lv
      refine ⟨r1, r2, fun y hy => ?_⟩
      rcases List.mem_cons.1 hy with rfl | hy
      · rw [Fv_keeps (show 0 ≤ Fv far y from by unfold Fv; omega)]
        have h1 : y ∈ q := by
          have := hk y.toNat (by rw [getD_lt (by omega) (-1) 0]; omega)
          rwa [Int.toNat_of_nonneg hx.1.1] at this
        exact hb y h1
      · exact r3 y hy
section
variable {adj : Int → List Int} {N : Nat} {start : Int}
theorem bfs_lv (hs : 0 ≤ start ∧ start < N) (ha : ∀ c : Int, 0 ≤ c ∧ c < N → ∀ x ∈ adj c, 0 ≤ x ∧ x < N) : ∀ k : Nat,
    Lv adj start (bfsTo adj N start k).1 (bfsTo adj N start k).2 ∧ (∀ c, (bfsTo adj N start k).2[k]? = some c → ∀ y ∈ (bfsTo adj N start k).2, Fv (bfsTo adj N start k).1 y ≤ Fv (bfsTo adj N start k).1 c + 1) ∧
      ∀ j, j < k → ∀ x, (bfsTo adj N start k).2[j]? = some x → ∀ y ∈ adj x, Fv (bfsTo adj N start k).1 y ≤ Fv (bfsTo adj N start k).1 x + 1
  | 0 => by
    refine ⟨⟨by simp [bfsTo], fun y hy => .inl (by simpa [bfsTo] using hy)⟩, fun c hc y hy => ?_, fun j hj => absurd hj (Nat.not_lt_zero _)⟩
    have h1 : c = start := by simpa [bfsTo, eq_comm] using hc
    have h2 : y = start := by simpa [bfsTo] using hy
    rw [h1, h2]; omega
  | k + 1 => by
    obtain ⟨lv, hb, htri⟩ := bfs_lv hs ha k
    have ok := bfs_ok hs ha k
    have kn := bfs_known hs ha k
    cases hc : (bfsTo adj N start k).2[k]? with
    | none =>
      have e : bfsTo adj N start (k + 1) = bfsTo adj N start k := by rw [bfsTo, bfsStep, hc]
      rw [e]
      have hl : (bfsTo adj N start k).2.length ≤ k := List.getElem?_eq_none_iff.1 hc
      refine ⟨lv, fun c h => ?_, fun j hj x hx => ?_⟩
      · rw [List.getElem?_eq_none (by omega)] at h; cases h
      · have : j < (bfsTo adj N start k).2.length := (List.getElem?_eq_some_iff.1 hx).1
        exact htri j (by omega) x hx
    | some c =>
      have e := bfs_next hc
      have hcq := List.mem_of_getElem? hc
      have hcr := ok.range c hcq
      have hd0 := ok.seen c hcq
      have hdk : (bfsTo adj N start k).1.getD c.toNat 0 ≤ k := by
        obtain ⟨v, h1, h2, _, h4⟩ := ok.at_ (i := c.toNat) (by omega)
        rw [h2]; exact h4
      obtain ⟨r1, r2, r3⟩ := visit_lv (adj := adj) (start := start) (c := c) (d := (bfsTo adj N start k).1.getD c.toNat 0) (adj c) (bfsTo adj N start k).1 (bfsTo adj N start k).2 ((k : Int) + 1)
        (fun x hx => ⟨ha c hcr x hx, hx⟩) (ok.mono (by omega)) kn hd0 (by omega) hcq rfl (hb c hc) lv
      rw [e]
      have hpre : ∀ j x, (bfsTo adj N start k).2[j]? = some x → (visit ((bfsTo adj N start k).1.getD c.toNat 0) (adj c) (bfsTo adj N start k)).2[j]? = some x := fun j x h => visit_pre (adj c) _ _ h
      have hFc : Fv (visit ((bfsTo adj N start k).1.getD c.toNat 0) (adj c) (bfsTo adj N start k)).1 c = Fv (bfsTo adj N start k).1 c := Fv_keeps (q := (bfsTo adj N start k).2) hd0
      refine ⟨r1, fun c2 hc2 y hy => ?_, fun j hj x hx y hy => ?_⟩
      · have h1 : Fv (visit ((bfsTo adj N start k).1.getD c.toNat 0) (adj c) (bfsTo adj N start k)).1 y ≤ (bfsTo adj N start k).1.getD c.toNat 0 + 1 := r2 y hy
        have h2 : Fv (visit ((bfsTo adj N start k).1.getD c.toNat 0) (adj c) (bfsTo adj N start k)).1 c ≤ Fv (visit ((bfsTo adj N start k).1.getD c.toNat 0) (adj c) (bfsTo adj N start k)).1 c2 := by
          exact mono_get r1.mono (Nat.lt_succ_self k) (hpre k c hc) hc2
        rw [hFc] at h2
        have : Fv (bfsTo adj N start k).1 c = (bfsTo adj N start k).1.getD c.toNat 0 := rfl
        omega
      · have hkl : k < (bfsTo adj N start k).2.length := (List.getElem?_eq_some_iff.1 hc).1
        obtain ⟨z, hz⟩ : ∃ z, (bfsTo adj N start k).2[j]? = some z := ⟨_, List.getElem?_eq_getElem (by omega)⟩
        have hzx : z = x := by have := hpre j z hz; rw [hx] at this; injection this with this; exact this.symm
        subst hzx
        by_cases hjk : j = k
        · subst hjk
          rw [hz] at hc; injection hc with hc
          subst hc
          rw [hFc]; exact r3 y hy
        · have h1 := htri j (by omega) z hz y hy
          have h2 := bfs_done hs ha k j (by omega) z hz y hy
          have h3 := ok.seen z (List.mem_of_getElem? hz)
          have h4 : Fv (visit ((bfsTo adj N start k).1.getD c.toNat 0) (adj c) (bfsTo adj N start k)).1 y = Fv (bfsTo adj N start k).1 y := Fv_keeps (q := (bfsTo adj N start k).2) h2
          have h5 : Fv (visit ((bfsTo adj N start k).1.getD c.toNat 0) (adj c) (bfsTo adj N start k)).1 z = Fv (bfsTo adj N start k).1 z := Fv_keeps (q := (bfsTo adj N start k).2) h3
          rw [h4, h5]; exact h1
/-- One leap more is at most one farther. -/
theorem far_tri (hs : 0 ≤ start ∧ start < N) (ha : ∀ c : Int, 0 ≤ c ∧ c < N → ∀ x ∈ adj c, 0 ≤ x ∧ x < N) {x y : Int} (hx : 0 ≤ x) (hf : 0 ≤ (farL adj N start).getD x.toNat (-1)) (hy : y ∈ adj x) :
    (farL adj N start).getD y.toNat (-1) ≤ (farL adj N start).getD x.toNat (-1) + 1 := by
  have ok := bfs_ok hs ha N
  have hlen := ok.len
  have hxq : x ∈ (bfsTo adj N start N).2 := by
    have := bfs_known hs ha N x.toNat hf
    rwa [Int.toNat_of_nonneg hx] at this
  have hxr := ok.range x hxq
  have hyr := ha x hxr y hy
  obtain ⟨j, hj, hjx⟩ := List.getElem_of_mem hxq
  have hql := bfs_q_len hs ha N
  have h := (bfs_lv hs ha N).2.2 j (by omega) x (by rw [List.getElem?_eq_getElem hj, hjx]) y hy
  unfold Fv at h
  unfold farL
  rw [getD_lt (by omega) (-1) 0, getD_lt (i := x.toNat) (by omega) (-1) 0]
  exact h
theorem far_pred (hs : 0 ≤ start ∧ start < N) (ha : ∀ c : Int, 0 ≤ c ∧ c < N → ∀ x ∈ adj c, 0 ≤ x ∧ x < N) {y : Int} (hy : 0 ≤ y) (hf : 0 ≤ (farL adj N start).getD y.toNat (-1)) :
    y = start ∨ ∃ x : Int, (0 ≤ x ∧ x < N) ∧ 0 ≤ (farL adj N start).getD x.toNat (-1) ∧ y ∈ adj x ∧ (farL adj N start).getD y.toNat (-1) = (farL adj N start).getD x.toNat (-1) + 1 := by
  have ok := bfs_ok hs ha N
  have hlen := ok.len
  have hyq : y ∈ (bfsTo adj N start N).2 := by
    have := bfs_known hs ha N y.toNat hf
    rwa [Int.toNat_of_nonneg hy] at this
  rcases (bfs_lv hs ha N).1.pred y hyq with h | ⟨x, hx, h1, h2⟩
  · exact .inl h
  · have hxr := ok.range x hx
    have hyr := ok.range y hyq
    have h3 := ok.seen x hx
    refine .inr ⟨x, hxr, ?_, h1, ?_⟩
    · unfold farL; rw [getD_lt (by omega) (-1) 0]; exact h3
    · unfold Fv at h2
      unfold farL
      rw [getD_lt (by omega) (-1) 0, getD_lt (i := x.toNat) (by omega) (-1) 0]
      exact h2
end


end Go.Proofs.Ytaliknhfcdmohaa

namespace Go.Proofs.Ytaliknhfcdmohaa
open Go.RowKit

/-! ### Leaps lead back -/
theorem colA_back {j : Bool} {n u p : Int} (hu : 0 ≤ u ∧ u < n) : colA j n (colA j n (u + p) + -p) = u := by
  cases j
  · show u + p + -p = u
    omega
  · show ((u + p) % n + -p) % n = u
    rw [Int.emod_add_emod, show u + p + -p = u by omega, Int.emod_eq_of_lt hu.1 hu.2]
theorem stepB_neg {a b x y : Int} (h : stepB a b x y = true) : stepB a b (-x) (-y) = true := by
  have e : ∀ z : Int, absV (-z) = absV z := fun z => by unfold absV; split <;> split <;> omega
  rw [stepB, e, e]; exact h
theorem stepA_back {W H q x y : Int} {ac up : Bool} (hg : goodA W H = true) (hq : 0 ≤ q ∧ q < W * H) (h : 0 ≤ stepA W H ac up q x y) : stepA W H ac up (stepA W H ac up q x y) (-x) (-y) = q := by
  obtain ⟨h1, h2⟩ := goodA_iff.1 hg
  have hm := mod_bdA (q := q) h1
  have hd := div_bdA h1.1 hq
  cases hin : inA W H (colA ac W (q % W + x)) (colA up H (q / W + y)) with
  | false => rw [stepA_no hin] at h; omega
  | true =>
    rw [stepA_yes hin]
    obtain ⟨i1, i2⟩ := inA_iff.1 hin
    have hu := colA_back (j := ac) (p := x) ⟨hm.1, hm.2.1⟩
    have hv := colA_back (j := up) (p := y) hd
    generalize colA ac W (q % W + x) = u at i1 hu ⊢
    generalize colA up H (q / W + y) = v at i2 hv ⊢
    have e1 : (v * W + u) % W = u := by rw [Int.add_comm, Int.add_mul_emod_self_right, Int.emod_eq_of_lt i1.1 i1.2]
    have e2 : (v * W + u) / W = v := by rw [Int.add_comm, Int.add_mul_ediv_right _ _ (by omega), Int.ediv_eq_zero_of_lt i1.1 i1.2]; omega
    have hin2 : inA W H (q % W) (q / W) = true := inA_iff.2 ⟨⟨hm.1, hm.2.1⟩, hd⟩
    have hc : inA W H (colA ac W ((v * W + u) % W + -x)) (colA up H ((v * W + u) / W + -y)) = true := by rw [e1, e2, hu, hv]; exact hin2
    rw [stepA_yes hc, e1, e2, hu, hv, Int.mul_comm]
    exact Int.mul_ediv_add_emod q W
theorem leapsA_sym {W H a b x y : Int} {ac up : Bool} (hg : goodA W H = true) (hl : leaperB a b = true) (hx : 0 ≤ x ∧ x < W * H) (h : y ∈ leapsA W H ac up a b x) : x ∈ leapsA W H ac up a b y := by
  obtain ⟨p, hp, ho, e⟩ := leapsA_mem.1 h
  obtain ⟨o1, o2⟩ := okA_iff.1 ho
  have hb := stepA_back hg hx o1
  rw [e] at hb o1 o2
  refine leapsA_mem.2 ⟨(-p.1, -p.2), (stepsL_mem hl).2 (stepB_neg ((stepsL_mem hl).1 hp)), okA_iff.2 ⟨?_, ?_⟩, hb⟩
  · show 0 ≤ stepA W H ac up y (-p.1) (-p.2)
    omega
  · show stepA W H ac up y (-p.1) (-p.2) ≠ y
    omega

/-! ### Leaps between cells of one level -/
section
variable {adj : Int → List Int} {N : Nat}
structure SymA (adj : Int → List Int) (N : Nat) : Prop where
  rg : ∀ c : Int, 0 ≤ c ∧ c < N → ∀ x ∈ adj c, 0 ≤ x ∧ x < N
  sym : ∀ x y : Int, 0 ≤ x ∧ x < N → y ∈ adj x → x ∈ adj y
/-- The distance of x from c. -/
def fD (adj : Int → List Int) (N : Nat) (c x : Int) : Int := (farL adj N c).getD x.toNat (-1)
def levB (adj : Int → List Int) (N : Nat) (c k : Int) : Bool := (adj k).any fun y => decide (fD adj N c y = fD adj N c k)
def badC (adj : Int → List Int) (N : Nat) (c : Int) : Prop := ∃ k, (0 ≤ k ∧ k < (N : Int)) ∧ 0 ≤ fD adj N c k ∧ levB adj N c k = true
theorem lev_iff {c k : Int} : levB adj N c k = true ↔ ∃ y ∈ adj k, fD adj N c y = fD adj N c k := by simp [levB]
theorem parity_edge (h : SymA adj N) {r x y : Int} (hr : 0 ≤ r ∧ r < N) (hn : ¬ badC adj N r) (hx : 0 ≤ x ∧ x < N) (hd : 0 ≤ fD adj N r x) (hy : y ∈ adj x) : 0 ≤ fD adj N r y ∧ (fD adj N r y = fD adj N r x + 1 ∨ fD adj N r y = fD adj N r x - 1) := by
  have hyr := h.rg x hx y hy
  have h0 : 0 ≤ fD adj N r y := far_step hr h.rg hx.1 hd hy
  have h1 : fD adj N r y ≤ fD adj N r x + 1 := far_tri hr h.rg hx.1 hd hy
  have h2 : fD adj N r x ≤ fD adj N r y + 1 := far_tri hr h.rg hyr.1 h0 (h.sym x y hx hy)
  have h3 : fD adj N r y ≠ fD adj N r x := fun e => hn ⟨x, hx, hd, lev_iff.2 ⟨y, hy, e⟩⟩
  exact ⟨h0, by omega⟩
theorem parity_far (h : SymA adj N) {r c : Int} (hr : 0 ≤ r ∧ r < N) (hc : 0 ≤ c ∧ c < N) (hn : ¬ badC adj N r) (hrc : 0 ≤ fD adj N r c) : ∀ (n : Nat) (y : Int), 0 ≤ y → fD adj N c y = (n : Int) → 0 ≤ fD adj N r y ∧ (fD adj N r y - fD adj N r c - (n : Int)) % 2 = 0
  | 0, y, hy, e => by
    rcases far_pred hc h.rg hy (show 0 ≤ (farL adj N c).getD y.toNat (-1) from by have : fD adj N c y = (0 : Int) := e; unfold fD at this; omega) with rfl | ⟨x, hx, h1, h2, h3⟩
    · exact ⟨hrc, by omega⟩
    · exfalso
      have e2 : (farL adj N c).getD y.toNat (-1) = 0 := e
      omega
  | n + 1, y, hy, e => by
    have e2 : (farL adj N c).getD y.toNat (-1) = (n : Int) + 1 := by have : fD adj N c y = ((n + 1 : Nat) : Int) := e; unfold fD at this; omega
    rcases far_pred hc h.rg hy (by omega) with rfl | ⟨x, hx, h1, h2, h3⟩
    · have := far_start hc h.rg; omega
    · obtain ⟨i1, i2⟩ := parity_far h hr hc hn hrc n x hx.1 (show (farL adj N c).getD x.toNat (-1) = (n : Int) by omega)
      obtain ⟨i3, i4⟩ := parity_edge h hr hn hx i1 h2
      exact ⟨i3, by omega⟩
theorem bad_move (h : SymA adj N) {r c : Int} (hr : 0 ≤ r ∧ r < N) (hc : 0 ≤ c ∧ c < N) (hrc : 0 ≤ fD adj N r c) (hb : badC adj N c) : badC adj N r := by
  refine Classical.byContradiction fun hn => ?_
  obtain ⟨k, hk, hd, hl⟩ := hb
  obtain ⟨y, hy, e⟩ := lev_iff.1 hl
  have hyr := h.rg k hk y hy
  obtain ⟨n, hkn⟩ : ∃ n : Nat, fD adj N c k = (n : Int) := ⟨(fD adj N c k).toNat, by omega⟩
  obtain ⟨p1, p2⟩ := parity_far h hr hc hn hrc n k hk.1 hkn
  obtain ⟨p3, p4⟩ := parity_far h hr hc hn hrc n y hyr.1 (by omega)
  obtain ⟨_, p5⟩ := parity_edge h hr hn hk p1 hy
  omega
end

end Go.Proofs.Ytaliknhfcdmohaa

namespace Go.Proofs.Ytaliknhfcdmohaa
open Go.RowKit

section
variable {adj : Int → List Int} {N : Nat}
def tcB (adj : Int → List Int) (N : Nat) : Bool := (upTo N).all fun c => (upTo N).all fun k => !(decide (0 ≤ fD adj N c k) && levB adj N c k)
theorem tc_iff : tcB adj N = true ↔ ∀ c : Int, 0 ≤ c ∧ c < N → ¬ badC adj N c := by
  rw [tcB, List.all_eq_true]
  constructor
  · rintro h c hc ⟨k, hk, h1, h2⟩
    have h3 := List.all_eq_true.1 (h c (upTo_mem.2 hc)) k (upTo_mem.2 hk)
    rw [h2] at h3
    simp at h3; omega
  · intro h c hc
    refine List.all_eq_true.2 fun k hk => ?_
    cases h2 : levB adj N c k with
    | false => simp
    | true =>
      have h3 : ¬ 0 ≤ fD adj N c k := fun h1 => h c (upTo_mem.1 hc) ⟨k, upTo_mem.1 hk, h1, h2⟩
      simp; omega
theorem fD_sym (h : SymA adj N) {p i : Int} (hp : 0 ≤ p ∧ p < N) (hi : 0 ≤ i) (hf : 0 ≤ fD adj N p i) : (0 ≤ i ∧ i < N) ∧ 0 ≤ fD adj N i p := by
  have := far_symm (C := fun x => 0 ≤ x ∧ x < (N : Int)) (fun x hx => hx) (fun x y hx hy => ⟨h.rg x hx y hy, h.sym x y hx hy⟩) hp h.rg (i := i.toNat) hf
  rw [Int.toNat_of_nonneg hi] at this; exact this
theorem fD_trans (h : SymA adj N) {p q r : Int} (hp : 0 ≤ p ∧ p < N) (hq : 0 ≤ q ∧ q < N) (h1 : 0 ≤ fD adj N p q) (h2 : 0 ≤ fD adj N q r) : 0 ≤ fD adj N p r := far_trans hp hq h.rg h1 h2
theorem fD_self (h : SymA adj N) {p : Int} (hp : 0 ≤ p ∧ p < N) : fD adj N p p = 0 := far_start hp h.rg
theorem far_getD (h : SymA adj N) (hN : N ≤ 144) {c : Int} (hc : 0 ≤ c ∧ c < N) (i : Nat) : (farL adj 144 c).getD i (-1) = (farL adj N c).getD i (-1) := by
  have e := far_pad (M := 144 - N) hc h.rg
  rw [show N + (144 - N) = 144 by omega] at e
  rw [e, getD_pad]
theorem partG_con (h : SymA adj N) (hN : N ≤ 144) {c : Int} (hc : 0 ≤ c ∧ c < N) {i : Nat} (hi : i < N) : (partG adj c).contains (i : Int) = decide (0 ≤ fD adj N c (i : Int)) := by
  unfold partG reachL
  rw [sel_contains (by omega), far_getD h hN hc, fD, Int.toNat_natCast]
theorem partG_mem (h : SymA adj N) (hN : N ≤ 144) {c y : Int} (hc : 0 ≤ c ∧ c < N) (hy : y ∈ partG adj c) : (0 ≤ y ∧ y < N) ∧ 0 ≤ fD adj N c y := by
  unfold partG reachL at hy
  obtain ⟨i, hi, hf, e⟩ := selTo_mem.1 hy
  rw [far_getD h hN hc, decide_eq_true_eq] at hf
  have hd : 0 ≤ fD adj N c y := by rw [fD, e, Int.toNat_natCast]; exact hf
  exact ⟨(fD_sym h hc (by omega) hd).1, hd⟩
theorem sel_noneA {f : Nat → Bool} : ∀ k, (∀ i, i < k → f i = false) → selTo f k = []
  | 0, _ => rfl
  | k + 1, h => by rw [selTo_no (h k (by omega))]; exact sel_noneA k fun i hi => h i (by omega)
theorem sel_headA {f : Nat → Bool} {c : Nat} (hc : f c = true) (hlt : ∀ i, i < c → f i = false) : ∀ k, c < k → (selTo f k).head? = some (c : Int)
  | 0, h => by omega
  | k + 1, h => by
    by_cases e : c = k
    · subst e
      rw [selTo_yes hc, sel_noneA c hlt]; rfl
    · have ih := sel_headA hc hlt k (by omega)
      cases hf : f k with
      | true => rw [selTo_yes hf, List.head?_append, ih]; rfl
      | false => rw [selTo_no hf, ih]
structure PartsOkA (adj : Int → List Int) (N k : Nat) : Prop where
  frm : ∀ p ∈ gTo (partG adj) (upTo N) k, ∃ c : Nat, c < N ∧ p = partG adj (c : Int) ∧ p.head? = some (c : Int)
  all : ∀ j : Nat, j < k → j < N → inParts (gTo (partG adj) (upTo N) k) (j : Int) = true
theorem parts_okA (h : SymA adj N) (hN : N ≤ 144) : ∀ k, PartsOkA adj N k
  | 0 => ⟨fun p hp => by simp [gTo] at hp, fun j hj => absurd hj (Nat.not_lt_zero _)⟩
  | k + 1 => by
    have ih := parts_okA h hN k
    by_cases hk : k < N
    · have hx := upTo_at hk
      have hkr : 0 ≤ (k : Int) ∧ (k : Int) < N := by omega
      cases hP : inParts (gTo (partG adj) (upTo N) k) (k : Int) with
      | true =>
        have e1 := gTo_yes hx hP
        refine ⟨by rw [e1]; exact ih.frm, fun j hj hjN => ?_⟩
        rw [e1]
        rcases Nat.lt_or_ge j k with hjk | hjk
        · exact ih.all j hjk hjN
        · obtain rfl : j = k := by omega
          exact hP
      | false =>
        have e1 := gTo_no hx hP
        have hbefore : ∀ i : Nat, i < k → ¬ 0 ≤ fD adj N (k : Int) (i : Int) := fun i hi hf => by
          obtain ⟨hir, hb⟩ := fD_sym h hkr (by omega) hf
          have hip := ih.all i hi (by omega)
          rw [inParts, List.any_eq_true] at hip
          obtain ⟨p, hp, hpx⟩ := hip
          obtain ⟨c, hc, hpe, _⟩ := ih.frm p hp
          rw [hpe, partG_con h hN (by omega) (by omega), decide_eq_true_eq] at hpx
          have hck := fD_trans h (p := (c : Int)) (by omega) hir hpx hb
          have : inParts (gTo (partG adj) (upTo N) k) (k : Int) = true := by
            rw [inParts, List.any_eq_true]
            exact ⟨_, hp, by rw [hpe, partG_con h hN (by omega) hk, decide_eq_true_eq]; exact hck⟩
          rw [this] at hP; cases hP
        have hhead : (partG adj (k : Int)).head? = some (k : Int) := by
          unfold partG reachL
          have hv : ∀ i : Nat, (farL adj 144 (k : Int)).getD i (-1) = fD adj N (k : Int) (i : Int) := fun i => by rw [far_getD h hN hkr, fD, Int.toNat_natCast]
          refine sel_headA (c := k) ?_ (fun i hi => ?_) 144 (by omega)
          · rw [hv, fD_self h hkr]; rfl
          · rw [hv, decide_eq_false_iff_not]; exact hbefore i hi
        refine ⟨fun p hp => ?_, fun j hj hjN => ?_⟩
        · rw [e1] at hp
          rcases List.mem_append.1 hp with hp | hp
          · exact ih.frm p hp
          · have hpe : p = partG adj (k : Int) := List.mem_singleton.1 hp
            exact ⟨k, hk, hpe, by rw [hpe]; exact hhead⟩
        · rw [e1, inParts_app]
          rcases Nat.lt_or_ge j k with hjk | hjk
          · rw [ih.all j hjk hjN]; rfl
          · obtain rfl : j = k := by omega
            rw [partG_con h hN hkr hk, fD_self h hkr]; simp
    · have hx : (upTo N)[k]? = none := List.getElem?_eq_none (by rw [upTo_length]; omega)
      have e1 : gTo (partG adj) (upTo N) (k + 1) = gTo (partG adj) (upTo N) k := by rw [gTo, gTo, List.take_add_one, hx]; simp
      exact ⟨by rw [e1]; exact ih.frm, fun j hj hjN => by rw [e1]; exact ih.all j (by omega) hjN⟩
theorem gAll_to (P : Int → List Int) : gAll P (upTo N) = gTo P (upTo N) N := by rw [gTo, List.take_of_length_le (by rw [upTo_length]; exact Nat.le_refl _)]; rfl
theorem parts_frm (h : SymA adj N) (hN : N ≤ 144) {p : List Int} (hp : p ∈ gAll (partG adj) (upTo N)) : ∃ c : Nat, c < N ∧ p = partG adj (c : Int) ∧ p.head? = some (c : Int) := by
  rw [gAll_to] at hp; exact (parts_okA h hN N).frm p hp
theorem parts_two (h : SymA adj N) (hN : N ≤ 144) : tcB adj N = true ↔ ∀ p ∈ gAll (partG adj) (upTo N), ∀ k ∈ p, levB adj N (p.headD 0) k = false := by
  rw [tc_iff]
  constructor
  · intro ht p hp k hk
    obtain ⟨c, hc, hpe, hh⟩ := parts_frm h hN hp
    rw [show p.headD 0 = (c : Int) by rw [List.headD_eq_head?_getD, hh]; rfl]
    rw [hpe] at hk
    obtain ⟨h1, h2⟩ := partG_mem h hN (c := (c : Int)) (by omega) hk
    cases hl : levB adj N (c : Int) k with
    | false => rfl
    | true => exact absurd ⟨k, h1, h2, hl⟩ (ht c (by omega))
  · intro hp c hc hb
    obtain ⟨cn, rfl⟩ : ∃ cn : Nat, c = (cn : Int) := ⟨c.toNat, by omega⟩
    have hin := (parts_okA h hN N).all cn (by omega) (by omega)
    rw [inParts, List.any_eq_true] at hin
    obtain ⟨p, hpm, hpx⟩ := hin
    obtain ⟨r, hr, hpe, hh⟩ := (parts_okA h hN N).frm p hpm
    rw [hpe, partG_con h hN (by omega) (by omega), decide_eq_true_eq] at hpx
    obtain ⟨k, hk, h1, h2⟩ := bad_move h (r := (r : Int)) (by omega) hc hpx hb
    obtain ⟨kn, rfl⟩ : ∃ kn : Nat, k = (kn : Int) := ⟨k.toNat, by omega⟩
    have hkp : (kn : Int) ∈ partG adj (r : Int) := List.contains_iff_mem.1 (by rw [partG_con h hN (by omega) (by omega), decide_eq_true_eq]; exact h1)
    have h3 := hp _ (by rw [gAll_to]; exact hpm) _ (by rw [hpe]; exact hkp)
    rw [show p.headD 0 = (r : Int) by rw [List.headD_eq_head?_getD, hh]; rfl, h2] at h3
    cases h3
end
theorem symA {W H a b : Int} {ac up : Bool} {N : Nat} (h : ArFacts W H a b N) : SymA (leapsA W H ac up a b) N :=
  ⟨fun c _ x hx => leapsA_in h.wh hx, fun x y hx hy => leapsA_sym h.g h.l (by rw [h.wh]; exact hx) hy⟩

end Go.Proofs.Ytaliknhfcdmohaa

namespace Go.Proofs.Ytaliknhfcdmohaa
open Go.RowKit

def tcV (W H : Int) (ac up : Bool) (a b : Int) : Bool := twoA W H a b && tcB (leapsA W H ac up a b) (W * H).toNat
theorem tcV_no {W H a b : Int} {ac up : Bool} (h : twoA W H a b = false) : tcV W H ac up a b = false := by rw [tcV, h]; rfl

set_option maxRecDepth 100000 in
set_option maxHeartbeats 4000000 in
theorem spec_TwoColoursAround (W H : Int) (ac up : Bool) (a b : Int) (w : World) :
    Calls Try.prog 48 #[ard W H ac up, lpr a b] w fun e w' => e = .returned (.tuple #[.bool (tcV W H ac up a b), .bool (twoA W H a b)]) ∧ Below w.heap.size w w' := by
  obtain ⟨W2, hW2⟩ : ∃ W2, W2 = (w.alloc (.cells #[.int .i64 W, .int .i64 H, .bool ac, .bool up] 25)).alloc (.cells #[.int .i64 a, .int .i64 b] 36) := ⟨_, rfl⟩
  have hsz : W2.heap.size = w.heap.size + 2 := by rw [hW2]; simp
  have a0 : W2.cell? ⟨w.heap.size, 0, none⟩ = some (.int .i64 W) := by rw [hW2]; go_simp
  have a1 : W2.cell? ⟨w.heap.size, 1, none⟩ = some (.int .i64 H) := by rw [hW2]; go_simp
  have a2 : W2.cell? ⟨w.heap.size, 2, none⟩ = some (.bool ac) := by rw [hW2]; go_simp
  have a3 : W2.cell? ⟨w.heap.size, 3, none⟩ = some (.bool up) := by rw [hW2]; go_simp
  have al : w.heap.size < W2.heap.size := by omega
  have l0 : W2.cell? ⟨w.heap.size + 1, 0, none⟩ = some (.int .i64 a) := by rw [hW2]; go_simp
  have l1 : W2.cell? ⟨w.heap.size + 1, 1, none⟩ = some (.int .i64 b) := by rw [hW2]; go_simp
  have ll : w.heap.size + 1 < W2.heap.size := by omega
  have B := Lib.hid (show Below w.heap.size w W2 by rw [hW2]; repeat (first | exact Below.refl _ _ | refine below_new ?_ _))
  cases ht : twoA W H a b
  · have OK := Lib.hid ht
    go_enter Try.func48, Try.ntmps48
    go_wp2_with fail
    rw [← hW2]
    clear hW2
    refine (arTwo_any _ _ _ _ _ _ _).mono ?_
    rw [ht]
    rintro e wv ⟨rfl, hb⟩
    replace a0 := cell_keep a0 al hb
    replace a1 := cell_keep a1 al hb
    replace a2 := cell_keep a2 al hb
    replace a3 := cell_keep a3 al hb
    replace al := lt_keep al hb
    replace l0 := cell_keep l0 ll hb
    replace l1 := cell_keep l1 ll hb
    replace ll := lt_keep ll hb
    replace B := Lib.hid (below_next B.out hb)
    clear hb
    clear a0 a1 a2 a3 l0 l1 al ll
    go_wp2
    go_ret2
    exact ⟨by rw [tcV_no OK.out]; rfl, B.out⟩
  · have HT := Lib.hid ht
    have HF := Lib.hid (ar_facts ht)
    obtain ⟨N, hN⟩ : ∃ N, (W * H).toNat = N := ⟨_, rfl⟩
    rw [hN] at HF
    have hWH := HF.out.wh
    have N2 := HF.out.n.2
    have N1 := HF.out.n.1
    have hN0 : (0 : Int) ≤ (N : Int) := by omega
    have HNN := Lib.hid hN
    have HV := Lib.hid (show tcV W H ac up a b = tcB (leapsA W H ac up a b) N by rw [tcV, ht, ← hN]; rfl)
    clear hN
    go_enter Try.func48, Try.ntmps48
    go_wp2_with fail
    rw [← hW2]
    clear hW2
    refine (arTwo_any _ _ _ _ _ _ _).mono ?_
    rw [ht]
    rintro e wv ⟨rfl, hb⟩
    replace a0 := cell_keep a0 al hb
    replace a1 := cell_keep a1 al hb
    replace a2 := cell_keep a2 al hb
    replace a3 := cell_keep a3 al hb
    replace al := lt_keep al hb
    replace l0 := cell_keep l0 ll hb
    replace l1 := cell_keep l1 ll hb
    replace ll := lt_keep ll hb
    replace B := Lib.hid (below_next B.out hb)
    clear hb
    obtain ⟨V, hV⟩ : ∃ V, V = leapsA W H ac up a b := ⟨_, rfl⟩
    have HVV := Lib.hid hV
    have HIN := Lib.hid (show ∀ x, ∀ y ∈ V x, 0 ≤ y ∧ y < (N : Int) from fun x y hy => by rw [hV] at hy; exact leapsA_in HF.out.wh hy)
    rw [← hV] at HV
    clear hV
    go_wp2
    go_loopw [6] (fun i wr => ∃ k : Nat, k ≤ N ∧ i = .int .i64 k ∧ (∀ c : Nat, c < k → ¬ badC V N (c : Int)) ∧ Below wv.heap.size wv wr) (fun i _ => N - (intOf i).toNat)
    case atStart => exact ⟨0, by omega, rfl, fun c hc => absurd hc (Nat.not_lt_zero _), Below.refl _ _⟩
    case round =>
      obtain ⟨k, hk, rfl, hno, hbw⟩ := hrel
      have NO := Lib.hid hno
      have b0 := cell_keep a0 al hbw; have b1 := cell_keep a1 al hbw; have b2 := cell_keep a2 al hbw; have b3 := cell_keep a3 al hbw; have m0 := cell_keep l0 ll hbw; have m1 := cell_keep l1 ll hbw
      have HBW := Lib.hid hbw
      clear hno hbw
      by_cases hlt : k < N
      · have hlt' : (k : Int) < (N : Int) := by omega
        go_wp2_with fail
        refine (arFrom_any W H ac up a b k N _ HF.out.g HF.out.l HF.out.wh hlt).mono ?_
        rintro e wx ⟨g, rfl, own, hb⟩
        rw [← HVV.out] at own
        have hfd : ∀ y : Int, fD V N (k : Int) y = (farL V N (k : Int)).getD y.toNat (-1) := fun y => rfl
        obtain ⟨D, hD⟩ : ∃ D, D = farL V N (k : Int) := ⟨_, rfl⟩
        rw [← hD] at own hfd
        have HFD := Lib.hid hfd
        have FAR := Lib.hid own
        have DLEN := Lib.hid own.len
        have HX := Lib.hid (below_next HBW.out hb)
        clear hb own hfd hD b0 b1 b2 b3 m0 m1
        go_wp2
        go_loopw [31] (fun i w2 => ∃ j : Nat, j ≤ N ∧ i = .int .i64 j ∧ (∀ q : Nat, q < j → 0 ≤ fD V N (k : Int) (q : Int) → levB V N (k : Int) (q : Int) = false) ∧ Below wx.heap.size wx w2) (fun i _ => N - (intOf i).toNat)
        case atStart => exact ⟨0, by omega, rfl, fun c hc => absurd hc (Nat.not_lt_zero _), Below.refl _ _⟩
        case round =>
          obtain ⟨j, hj, rfl, hno, hbx⟩ := hrel
          have NJ := Lib.hid hno
          by_cases hjl : j < N
          · obtain ⟨x, hx⟩ : ∃ x, D[j]? = some x := ⟨_, List.getElem?_eq_getElem (show j < D.length by have := DLEN.out; omega)⟩
            have y0 := (FAR.out.keep hbx).cell hx
            have HFX := Lib.hid (show fD V N (k : Int) (j : Int) = x by rw [HFD.out, Int.toNat_natCast, List.getD_eq_getElem?_getD, hx]; rfl)
            have hb8 := below_next HX.out hbx
            have b0 := cell_keep a0 al hb8; have b1 := cell_keep a1 al hb8; have b2 := cell_keep a2 al hb8; have b3 := cell_keep a3 al hb8; have m0 := cell_keep l0 ll hb8; have m1 := cell_keep l1 ll hb8
            have HBX := Lib.hid hbx
            clear hno hbx hx hb8
            by_cases hneg : x < 0
            · go_wp2
              go_roundw
              case rel => exact ⟨j + 1, by omega, by go_num, fun q hq h0 => by
                rcases Nat.lt_or_ge q j with hqj | hqj
                · exact NJ.out q hqj h0
                · obtain rfl : q = j := by omega
                  rw [HFX.out] at h0; omega, HBX.out⟩
              case measure => simp [intOf]; omega
            · go_wp2_with fail
              refine (arLeaps_any W H ac up a b (j : Int) _ HF.out.g HF.out.l (by rw [HF.out.wh]; omega)).mono ?_
              rintro e wy ⟨A', n', c', rfl, hown, hb⟩
              rw [← HVV.out] at hown
              have R := Lib.hid hown.rd
              have HLL := Lib.hid hown.len
              have HBY := Lib.hid (below_next HBX.out hb)
              have hn9 := hown.rd.2.1
              clear hb hown b0 b1 b2 b3 m0 m1 y0
              go_wp2
              go_loopw [43] (fun i w3 => ∃ m : Nat, m ≤ n' ∧ i = .int .i64 m ∧ (∀ y ∈ (V (j : Int)).take m, fD V N (k : Int) y ≠ x) ∧ Below wy.heap.size wy w3) (fun i _ => n' - (intOf i).toNat)
              case atStart => exact ⟨0, by omega, rfl, by simp, Below.refl _ _⟩
              case round =>
                obtain ⟨m, hm, rfl, hno, hby⟩ := hrel
                have NM := Lib.hid hno
                by_cases hml : m < n'
                · obtain ⟨bb, oo, y, rfl, hg1, hy, z0⟩ := R.out.at_ hml
                  have hyr := HIN.out _ y (List.mem_of_getElem? hy)
                  obtain ⟨yn, rfl⟩ : ∃ yn : Nat, y = (yn : Int) := ⟨y.toNat, by omega⟩
                  obtain ⟨v, hv⟩ : ∃ v, D[yn]? = some v := ⟨_, List.getElem?_eq_getElem (show yn < D.length by have := DLEN.out; omega)⟩
                  have hq0 := hyr.1
                  have hq1 := hyr.2
                  have f0 := ((FAR.out.keep HBY.out).keep hby).cell hv
                  have HFV := Lib.hid (show fD V N (k : Int) (yn : Int) = v by rw [HFD.out, Int.toNat_natCast, List.getD_eq_getElem?_getD, hv]; rfl)
                  have HYM := Lib.hid hy
                  replace z0 := cell_keep z0 hg1 hby
                  have HB3 := Lib.hid hby
                  clear hno hby hy hv hg1 hyr
                  cases hvx : (v == x) with
                  | true =>
                    have HE := Lib.hid hvx
                    go_wp2
                    go_ret2
                    have e9 : v = x := by simpa using HE.out
                    have hbad : badC V N (k : Int) := ⟨(j : Int), by omega, by rw [HFX.out]; omega, lev_iff.2 ⟨(yn : Int), List.mem_of_getElem? HYM.out, by rw [HFV.out, HFX.out, e9]⟩⟩
                    have hf9 : tcB V N = false := by
                      rw [← Bool.not_eq_true, tc_iff]
                      intro h; exact h (k : Int) (by omega) hbad
                    exact ⟨by rw [HV.out, hf9]; rfl, below_next B.out (below_next (below_next HX.out HBY.out) HB3.out)⟩
                  | false =>
                    have HE := Lib.hid hvx
                    go_wp2
                    go_roundw
                    case rel => exact ⟨m + 1, by omega, by go_num, fun u hu => by
                      rw [List.take_add_one, HYM.out] at hu
                      rcases List.mem_append.1 hu with hu | hu
                      · exact NM.out u hu
                      · obtain rfl : u = (yn : Int) := by simpa using hu
                        rw [HFV.out]; simpa using HE.out, HB3.out⟩
                    case measure => simp [intOf]; omega
                · obtain rfl : m = n' := by omega
                  have HB3 := Lib.hid hby
                  clear hno hby
                  go_wp2
                  go_roundw
                  case rel => exact ⟨j + 1, by omega, by go_num, fun q hq h0 => by
                    rcases Nat.lt_or_ge q j with hqj | hqj
                    · exact NJ.out q hqj h0
                    · obtain rfl : q = j := by omega
                      rw [← Bool.not_eq_true, lev_iff, HFX.out]
                      rintro ⟨u, hu, hux⟩
                      exact NM.out u (by rw [List.take_of_length_le (by have := HLL.out; omega)]; exact hu) hux, below_next HBY.out HB3.out⟩
                  case measure => simp [intOf]; omega
          · obtain rfl : j = N := by omega
            have HBX := Lib.hid hbx
            clear hno hbx
            go_wp2
            go_roundw
            case rel => exact ⟨k + 1, by omega, by go_num, fun c hc => by
              rcases Nat.lt_or_ge c k with hck | hck
              · exact NO.out c hck
              · obtain rfl : c = k := by omega
                rintro ⟨q, hq, h1, h2⟩
                obtain ⟨qn, rfl⟩ : ∃ qn : Nat, q = (qn : Int) := ⟨q.toNat, by omega⟩
                rw [NJ.out qn (by omega) h1] at h2; exact Bool.noConfusion h2, below_next HX.out HBX.out⟩
            case measure => simp [intOf]; omega
      · obtain rfl : k = N := by omega
        have ht9 : tcB V k = true := tc_iff.2 fun c hc => by
          obtain ⟨cn, rfl⟩ : ∃ cn : Nat, c = (cn : Int) := ⟨c.toNat, by omega⟩
          exact NO.out cn (by omega)
        have HT9 := Lib.hid ht9
        clear ht9
        go_wp2
        go_ret2
        exact ⟨by rw [HV.out, HT9.out]; rfl, below_next B.out HBW.out⟩

end Go.Proofs.Ytaliknhfcdmohaa

namespace Go.Proofs.Ytaliknhfcdmohaa
open Go.RowKit

/-- The array of distances and the cell that the closure has captured. -/
structure LevAt (w : World) (gf gc : Nat) (L : List Int) (c : Nat) : Prop where
  len : L.length = 144
  far : w.rangeAt gf 0 (L.map (Value.int .i64))
  cell : w.cell? ⟨gc, 0, none⟩ = some (.int .i64 (c : Int))
  fl : gf < w.heap.size
  cl : gc < w.heap.size
  c9 : c < 144
theorem LevAt.keep {w w' : World} {gf gc : Nat} {L : List Int} {c : Nat} (h : LevAt w gf gc L c) (hb : Below w.heap.size w w') : LevAt w' gf gc L c :=
  ⟨h.len, range_keep h.far h.fl hb, cell_keep h.cell h.cl hb, lt_keep h.fl hb, lt_keep h.cl hb, h.c9⟩
def samB (L : List Int) (c : Nat) (q : Int) : Bool := decide (L.getD q.toNat (-1) = L.getD c (-1))

set_option maxRecDepth 100000 in
set_option maxHeartbeats 1000000 in
theorem sameLevel_any (gf gc : Nat) (L : List Int) (c : Nat) (q : Int) (w : World) (h : LevAt w gf gc L c) (hq : 0 ≤ q ∧ q < 144) :
    Calls Try.prog 108 #[.int .i64 q, .pointer (some ⟨gf, 0, none⟩), .pointer (some ⟨gc, 0, none⟩)] w fun e w' => e = .returned (.bool (samB L c q)) ∧ Below w.heap.size w w' := by
  obtain ⟨qn, rfl⟩ : ∃ qn : Nat, q = (qn : Int) := ⟨q.toNat, by omega⟩
  obtain ⟨vq, hvq⟩ : ∃ v, L[qn]? = some v := ⟨_, List.getElem?_eq_getElem (by have := h.len; omega)⟩
  obtain ⟨vc, hvc⟩ : ∃ v, L[c]? = some v := ⟨_, List.getElem?_eq_getElem (by have := h.len; have := h.c9; omega)⟩
  have f0 : w.cell? ⟨gf, qn, none⟩ = some (.int .i64 vq) := by have := h.far qn (.int .i64 vq) (by rw [List.getElem?_map, hvq]; rfl); rwa [Nat.zero_add] at this
  have f1 : w.cell? ⟨gf, c, none⟩ = some (.int .i64 vc) := by have := h.far c (.int .i64 vc) (by rw [List.getElem?_map, hvc]; rfl); rwa [Nat.zero_add] at this
  have f2 := h.cell
  have q0 := hq.1; have q1 := hq.2
  have c0 : (0 : Int) ≤ (c : Int) := by omega
  have c1 : (c : Int) < 144 := by have := h.c9; omega
  have HE := Lib.hid (show samB L c (qn : Int) = (vq == vc) by rw [samB, Int.toNat_natCast, List.getD_eq_getElem?_getD, List.getD_eq_getElem?_getD, hvq, hvc]; rw [Bool.eq_iff_iff]; simp)
  clear h hq hvq hvc
  go_enter Try.func108, Try.ntmps108
  go_wp2_with fail
  refine wp_region_held_drew (S := fun w' => w'.cell? ⟨gf, qn, none⟩ = some (.int .i64 vq) ∧ w'.cell? ⟨gf, c, none⟩ = some (.int .i64 vc) ∧ w'.cell? ⟨gc, 0, none⟩ = some (.int .i64 (c : Int))) (by kernel_rfl) ?_ (fun hHeld => ?_)
  · (try dsimp only)
    exact ⟨f0, f1, f2⟩
  refine wpAnyH_take (i := 0) (oi := ⟨_, _, _, _, _, _⟩) (v := ?_) rfl (by kernel_rfl) (by kernel_rfl) (by kernel_rfl) (fun _ _ _ h => h) (Or.inl ⟨by rfl, ?_⟩) (by assumption) ?_
  rotate_left
  · intro w hSw
    (try dsimp only at hSw)
    go_simp
    (try with_reducible rfl)
  (try simp only [Act.put, List.setIfInBounds_toArray, List.set_cons_zero, List.set_cons_succ])
  refine wpAnyH_take (i := 3) (oi := ⟨_, _, _, _, _, _⟩) (v := ?_) rfl (by kernel_rfl) (by kernel_rfl) (by kernel_rfl) (fun _ _ _ h => h) (Or.inl ⟨by rfl, ?_⟩) (by assumption) ?_
  rotate_left
  · intro w hSw
    (try dsimp only at hSw)
    go_simp
    (try with_reducible rfl)
  (try simp only [Act.put, List.setIfInBounds_toArray, List.set_cons_zero, List.set_cons_succ])
  refine wpAnyH_take (i := 1) (oi := ⟨_, _, _, _, _, _⟩) (v := ?_) rfl (by kernel_rfl) (by kernel_rfl) (by kernel_rfl) (fun _ _ _ h => h) (Or.inl ⟨by rfl, ?_⟩) (by assumption) ?_
  rotate_left
  · intro w hSw
    (try dsimp only at hSw)
    go_simp
    (try with_reducible rfl)
  (try simp only [Act.put, List.setIfInBounds_toArray, List.set_cons_zero, List.set_cons_succ])
  refine wpAnyH_take (i := 4) (oi := ⟨_, _, _, _, _, _⟩) (v := ?_) rfl (by kernel_rfl) (by kernel_rfl) (by kernel_rfl) (fun _ _ _ h => h) (Or.inl ⟨by rfl, ?_⟩) (by assumption) ?_
  rotate_left
  · intro w hSw
    (try dsimp only at hSw)
    go_simp
    (try with_reducible rfl)
  (try simp only [Act.put, List.setIfInBounds_toArray, List.set_cons_zero, List.set_cons_succ])
  refine wpAnyH_take (i := 2) (oi := ⟨_, _, _, _, _, _⟩) (v := ?_) rfl (by kernel_rfl) (by kernel_rfl) (by kernel_rfl) (fun _ _ _ h => h) (Or.inl ⟨by rfl, ?_⟩) (by assumption) ?_
  rotate_left
  · intro w hSw
    (try dsimp only at hSw)
    go_simp
    (try with_reducible rfl)
  (try simp only [Act.put, List.setIfInBounds_toArray, List.set_cons_zero, List.set_cons_succ])
  refine wpAnyH_take (i := 5) (oi := ⟨_, _, _, _, _, _⟩) (v := ?_) rfl (by kernel_rfl) (by kernel_rfl) (by kernel_rfl) (fun _ _ _ h => h) (Or.inl ⟨by rfl, ?_⟩) (by assumption) ?_
  rotate_left
  · intro w hSw
    (try dsimp only at hSw)
    go_simp
    (try with_reducible rfl)
  (try simp only [Act.put, List.setIfInBounds_toArray, List.set_cons_zero, List.set_cons_succ])
  refine wpAnyH_take (i := 6) (oi := ⟨_, _, _, _, _, _⟩) (v := ?_) rfl (by kernel_rfl) (by kernel_rfl) (by kernel_rfl) (fun _ _ _ h => h) (Or.inl ⟨by rfl, ?_⟩) (by assumption) ?_
  rotate_left
  · intro w hSw
    (try dsimp only at hSw)
    go_simp
    (try with_reducible rfl)
  (try simp only [Act.put, List.setIfInBounds_toArray, List.set_cons_zero, List.set_cons_succ])
  refine wpAnyH_take (i := 7) (oi := ⟨_, _, _, _, _, _⟩) (v := ?_) rfl (by kernel_rfl) (by kernel_rfl) (by kernel_rfl) (fun _ _ _ h => h) (Or.inl ⟨by rfl, ?_⟩) (by assumption) ?_
  rotate_left
  · intro w hSw
    (try dsimp only at hSw)
    go_simp
    (try with_reducible rfl)
  (try simp only [Act.put, List.setIfInBounds_toArray, List.set_cons_zero, List.set_cons_succ])
  refine wpAnyH_done (by kernel_rfl) ?_ _
  go_wp2
  go_ret
  exact ⟨ret_bool (by rw [HE.out]), (by repeat (first | exact Below.refl _ _ | refine below_drewN ?_ _ | refine Below.drew ?_))⟩

set_option maxRecDepth 100000 in
set_option maxHeartbeats 2000000 in
theorem indexLevel_any (gf gc : Nat) (L : List Int) (c : Nat) (A2 : Option Addr) (m c2 : Nat) (ps : List Int) (w : World) (hat : LevAt w gf gc L c) (hp : Rd w A2 m ps) (hg : ∀ y ∈ ps, 0 ≤ y ∧ y < 144) :
    Calls Try.prog 109 #[.slice A2 m c2, .func (.func 108) #[] #[.pointer (some ⟨gf, 0, none⟩), .pointer (some ⟨gc, 0, none⟩)]] w fun e w' => ∃ r : Int, e = .returned (.int .i64 r) ∧ -1 ≤ r ∧ decide (0 ≤ r) = (!ps.all (fun q => !samB L c q)) ∧ Below w.heap.size w w' := by
  have HAT := Lib.hid hat; have HP := Lib.hid hp; have HG := Lib.hid hg
  have HPL := Lib.hid hp.1
  have m9 := hp.2.1
  clear hat hp hg
  go_enter Try.func109, Try.ntmps109
  go_wp2
  go_loopw [8] (fun i wr => ∃ k : Nat, k ≤ m ∧ i = .int .i64 k ∧ (ps.take k).all (fun q => !samB L c q) = true ∧ Below w.heap.size w wr) (fun i _ => m - (intOf i).toNat)
  case atStart => exact ⟨0, Nat.zero_le _, rfl, by simp, Below.refl _ _⟩
  case round =>
    obtain ⟨k, hk, rfl, hno, hbw⟩ := hrel
    have HNO := Lib.hid hno
    have HB := Lib.hid hbw
    clear hno
    by_cases hlt : k < m
    · obtain ⟨bb, oo, x, rfl, hg1, hx, x0⟩ := HP.out.at_ hlt
      have HX := Lib.hid hx
      replace x0 := cell_keep x0 hg1 hbw
      have hK := sameLevel_any gf gc L c x wr (HAT.out.keep hbw) (HG.out x (List.mem_of_getElem? hx))
      clear hx hbw hg1
      cases hsm : samB L c x with
      | false =>
        have HS := Lib.hid hsm
        go_wp2_with fail
        refine hK.mono ?_
        rw [hsm]
        rintro e wv ⟨rfl, hb⟩
        replace HB := Lib.hid (HB.out.trans (hb.mono HB.out.size))
        clear hb hK hsm x0
        go_wp2
        go_roundw
        case rel => exact ⟨k + 1, by omega, by go_num, by rw [List.take_add_one, HX.out, List.all_append, HNO.out]; simp [HS.out], HB.out⟩
        case measure => simp [intOf]; omega
      | true =>
        have HS := Lib.hid hsm
        go_wp2_with fail
        refine hK.mono ?_
        rw [hsm]
        rintro e wv ⟨rfl, hb⟩
        replace HB := Lib.hid (HB.out.trans (hb.mono HB.out.size))
        clear hb hK hsm x0
        go_wp2
        go_ret
        exact ⟨(k : Int), rfl, by omega, by rw [show ps.all (fun q => !samB L c q) = false from List.all_eq_false.2 ⟨x, List.mem_of_getElem? HX.out, by simp [HS.out]⟩]; simp, HB.out⟩
    · have hkn : k = m := by omega
      subst hkn
      clear hbw
      go_wp2
      go_ret
      exact ⟨-1, rfl, by omega, by have h := HNO.out; rw [List.take_of_length_le (by have := HPL.out; omega)] at h; rw [h]; simp, HB.out⟩


set_option maxRecDepth 100000 in
set_option maxHeartbeats 2000000 in
theorem containsLevel_any (gf gc : Nat) (L : List Int) (c : Nat) (A2 : Option Addr) (m c2 : Nat) (ps : List Int) (w : World) (hat : LevAt w gf gc L c) (hp : Rd w A2 m ps) (hg : ∀ y ∈ ps, 0 ≤ y ∧ y < 144) :
    Calls Try.prog 86 #[.slice A2 m c2, .func (.func 108) #[] #[.pointer (some ⟨gf, 0, none⟩), .pointer (some ⟨gc, 0, none⟩)]] w fun e w' => e = .returned (.bool (!ps.all (fun q => !samB L c q))) ∧ Below w.heap.size w w' := by
  have hI := indexLevel_any gf gc L c A2 m c2 ps w hat hp hg
  clear hat hp hg
  go_enter Try.func86, Try.ntmps86
  go_wp2_with fail
  refine hI.mono ?_
  rintro e wv ⟨r, rfl, hr1, hr3, hb⟩
  have HR := Lib.hid hr3
  clear hI hr3
  go_wp2
  go_ret
  exact ⟨ret_bool (by rw [← HR.out]), hb⟩

theorem wpList_store144 {ops : Array Oper} {rest : List Oper} {o : Oper} {a : Act} {w0 : World} {Q : Exit → Act → World → Prop} (L : List Int) (hL : L.length = 144) (hg : o.guard = none) (x y : Operand)
    (ho : o.op = .store 75 x y) (hd : o.dst = none) (hx : a.eval x = .pointer (some ⟨w0.heap.size, 0, none⟩)) (hy : a.eval y = .agg (L.map (Value.int .i64)).toArray)
    (E : TypeId) (old : Array Value) (hold : old.size = 144) (h : wpList Try.prog ops Q rest a (w0.alloc (.cells (L.map (Value.int .i64)).toArray E))) :
    wpList Try.prog ops Q (o :: rest) a (w0.alloc (.cells old E)) := by
  refine wpList_store_rowTo hg _ x y ho hd w0.heap.size (L.map (Value.int .i64)).toArray hx hy E old (show (w0.heap.push _)[w0.heap.size]? = _ by rw [Array.getElem?_push_size]) (by rw [infoD]; simp [hL]) (by rw [hold]; simp [hL]) ?_ ?_
  · refine Array.all_eq_true_iff_forall_mem.2 (fun v hv => ?_)
    simp only [List.mem_toArray, List.mem_map] at hv
    obtain ⟨i, _, rfl⟩ := hv
    rfl
  · rw [World.setRow_alloc_new]; exact h
theorem PartsAt.at_ {w : World} {lo top : Nat} {A : Option Addr} {n c k : Nat} {ps : List (List Int)} (h : PartsAt w lo top A n c ps) (hk : k < n) :
    ∃ g A9 n9 c9 p, A = some ⟨g, 0, none⟩ ∧ lo ≤ g ∧ g < w.heap.size ∧ ps[k]? = some p ∧ w.cell? ⟨g, k, none⟩ = some (.slice A9 n9 c9) ∧ OwnI 3 w lo A9 n9 c9 p := by
  obtain ⟨vs, h1, h2, h3, _, _⟩ := h
  obtain ⟨g, rfl, hg1, hg2⟩ := h1.some_ hk
  have hl := h1.len
  obtain ⟨v, hv⟩ : ∃ v, vs[k]? = some v := ⟨_, List.getElem?_eq_getElem (show k < vs.length by omega)⟩
  obtain ⟨p, hp⟩ : ∃ p, ps[k]? = some p := ⟨_, List.getElem?_eq_getElem (show k < ps.length by omega)⟩
  have hc := h1.cell (k := 1) (j := 0) (fun _ => rfl) hv rfl
  rw [Nat.mul_one, Nat.add_zero] at hc
  exact ⟨g, _, _, _, _, rfl, hg1, hg2, hp, hc, h3 k _ _ hv hp⟩


end Go.Proofs.Ytaliknhfcdmohaa

namespace Go.Proofs.Ytaliknhfcdmohaa
open Go.RowKit

theorem samB_lev {adj : Int → List Int} {N c k : Nat} (h : SymA adj N) (hN : N ≤ 144) (hc : c < N) : (!(adj (k : Int)).all fun q => !samB (farL adj 144 (c : Int)) k q) = levB adj N (c : Int) (k : Int) := by
  have e : ∀ q : Int, samB (farL adj 144 (c : Int)) k q = decide (fD adj N (c : Int) q = fD adj N (c : Int) (k : Int)) := fun q => by
    rw [samB, far_getD h hN (by omega), far_getD h hN (by omega), fD, fD, Int.toNat_natCast]
  obtain ⟨S, hS⟩ : ∃ S, S = samB (farL adj 144 (c : Int)) k := ⟨_, rfl⟩
  rw [← hS] at e ⊢
  clear hS
  have key : ∀ l : List Int, (!l.all fun q => !S q) = l.any fun y => decide (fD adj N (c : Int) y = fD adj N (c : Int) (k : Int)) := fun l => by
    induction l with
    | nil => rfl
    | cons x t ih => rw [List.all_cons, List.any_cons, ← ih, ← e x]; cases S x <;> simp
  exact key _

set_option maxRecDepth 100000 in
set_option maxHeartbeats 4000000 in
theorem haveTwo_any (adj : Int → List Int) (N lo0 mo : Nat) (w : World) (hom : OnMapK w lo0 mo (upTo N) adj) (hs : SymA adj N) (hN : N ≤ 144) (hadj : ∀ x, ∀ y ∈ adj x, y ∈ upTo N) :
    Calls Try.prog 84 #[.map (some mo)] w fun e w' => e = .returned (.bool (tcB adj N)) ∧ Below w.heap.size w w' := by
  have HOM := Lib.hid hom; have HS := Lib.hid hs; have HN := Lib.hid hN
  have HCL := Lib.hid (show ∀ x ∈ upTo N, 0 ≤ x ∧ x < 144 from fun x hx => by have := upTo_mem.1 hx; omega)
  have HADJ := Lib.hid (show ∀ x, ∀ y ∈ adj x, y ∈ upTo N from hadj)
  have hpo := parts_any (upTo N) adj lo0 mo w hom (upTo_pairwise N) HCL.out HADJ.out (by rw [upTo_length]; exact hN)
  obtain ⟨ps, hps⟩ : ∃ ps, ps = gAll (partG adj) (upTo N) := ⟨_, rfl⟩
  rw [← hps] at hpo
  have HPS := Lib.hid hps
  have hpn : ps.length ≤ 144 := by rw [hps, gAll_to]; have := gTo_len (partG adj) (upTo N) N; omega
  clear hom hs hadj hps
  go_enter Try.func84, Try.ntmps84
  go_wp2_with fail
  refine hpo.mono ?_
  rintro e ws ⟨A', n', c', top, rfl, hpa, hb⟩
  have B := Lib.hid hb
  have PA := Lib.hid hpa
  have hn' : n' ≤ 144 := by have := hpa.len; omega
  have HPL := Lib.hid hpa.len
  clear hpa hb hpo hpn
  go_wp2
  go_loopw [11] (fun i wr => ∃ k : Nat, k ≤ n' ∧ i = .int .i64 k ∧ (∀ p ∈ ps.take k, ∀ y ∈ p, levB adj N (p.headD 0) y = false) ∧ Below ws.heap.size ws wr) (fun i _ => n' - (intOf i).toNat)
  case atStart => exact ⟨0, Nat.zero_le _, rfl, fun p hp => by simp at hp, Below.refl _ _⟩
  case round =>
    obtain ⟨k, hk, rfl, hno, hbw⟩ := hrel
    have NO := Lib.hid hno
    by_cases hlt : k < n'
    · obtain ⟨g, A9, n9, c9, p, rfl, hg1, hg2, hp, hpc, hown⟩ := PA.out.at_ hlt
      obtain ⟨c, hc, hpe, hhd⟩ := parts_frm HS.out HN.out (show p ∈ gAll (partG adj) (upTo N) by rw [← HPS.out]; exact List.mem_of_getElem? hp)
      have HPE := Lib.hid (show ∀ y ∈ p, (0 ≤ y ∧ y < (N : Int)) from fun y hy => by rw [hpe] at hy; exact (partG_mem HS.out HN.out (by omega) hy).1)
      have hpn : 0 < n9 := by have := hown.len; cases p with | nil => simp at hhd | cons y t => simp at this; omega
      have hp9 : n9 ≤ 144 := by have h1 := hown.len; have h2 := partG_len adj (c : Int); rw [← hpe] at h2; omega
      have hhe := Lib.hid (show p.headD 0 = (c : Int) by rw [List.headD_eq_head?_getD, hhd]; rfl)
      obtain ⟨g9, rfl, hg3, hg4⟩ := hown.some_ hpn
      have hx0 : p[0]? = some (c : Int) := by rw [← hhd, List.head?_eq_getElem?]
      have x0 := cell_keep hpc hg2 hbw
      have y0 := (hown.keep hbw).cell hx0
      have OWN := Lib.hid (hown.keep hbw)
      have HPK := Lib.hid hp
      have HBW := Lib.hid hbw
      have hD := distancesFrom_any lo0 mo (upTo N) adj c wr (HOM.out.keep (below_next B.out hbw)).on (by omega) (upTo_mem.2 (by omega)) HCL.out HADJ.out
      have hL := (farG_bd HCL.out HADJ.out (upTo_mem.2 (show 0 ≤ (c : Int) ∧ (c : Int) < N by omega))).1
      obtain ⟨L, hLL⟩ : ∃ L, L = farL adj 144 (c : Int) := ⟨_, rfl⟩
      rw [← hLL] at hD hL
      have HLL := Lib.hid hLL
      clear hp hpc hown hbw hhd hx0 hpe hno hLL hg1 hg2
      go_wp2_with fail
      refine hD.mono ?_
      rintro e wu ⟨rfl, hbu⟩
      replace OWN := Lib.hid (OWN.out.keep hbu)
      replace HBW := Lib.hid (below_next HBW.out hbu)
      have HR6 := range_laid wu L 75
      have hb6 := below_new (Below.refl wu.heap.size wu) (.cells (L.map (Value.int .i64)).toArray 75)
      clear hbu x0 y0 hD
      go_wp2_with (refine wpList_store144 L hL rfl _ _ rfl rfl rfl rfl _ _ rfl ?_)
      obtain ⟨wd, hwd⟩ : ∃ wd, wd = wu.heap.size := ⟨_, rfl⟩
      obtain ⟨W6, hW6⟩ : ∃ W6, W6 = wu.alloc (.cells (L.map (Value.int .i64)).toArray 75) := ⟨_, rfl⟩
      have hs6 : W6.heap.size = wd + 1 := by rw [hW6, hwd]; simp
      rw [← hW6] at HR6 hb6 ⊢
      replace OWN := Lib.hid (OWN.out.keep hb6)
      replace HBW := Lib.hid (below_next HBW.out hb6)
      rw [← hwd] at HR6 ⊢
      have HRL := Lib.hid HR6
      have HL := Lib.hid hL
      clear hW6 hwd hb6 HR6 hL
      go_wp2
      go_loopw [22] (fun i wx => ∃ j : Nat, j ≤ n9 ∧ i = .int .i64 j ∧ (∀ y ∈ p.take j, levB adj N (c : Int) y = false) ∧ Below W6.heap.size W6 wx) (fun i _ => n9 - (intOf i).toNat)
      case atStart => exact ⟨0, by omega, rfl, by simp, Below.refl _ _⟩
      case round =>
        obtain ⟨j, hj, rfl, hno, hbx⟩ := hrel
        have NJ := Lib.hid hno
        by_cases hjl : j < n9
        · obtain ⟨y, hy⟩ : ∃ y, p[j]? = some y := ⟨_, List.getElem?_eq_getElem (show j < p.length by have := OWN.out.len; omega)⟩
          have hyr := HPE.out y (List.mem_of_getElem? hy)
          obtain ⟨yn, rfl⟩ : ∃ yn : Nat, y = (yn : Int) := ⟨y.toNat, by omega⟩
          have hyn : yn < N := by omega
          have z0 := (OWN.out.keep hbx).cell hy
          have HY := Lib.hid hy
          have HBX := Lib.hid hbx
          have hsx := hbx.size
          obtain ⟨W7, hW7⟩ : ∃ W7, W7 = wr.alloc (.cells #[.int .i64 (yn : Int)] 3) := ⟨_, rfl⟩
          have hs7 : W7.heap.size = wr.heap.size + 1 := by rw [hW7]; simp
          have HB7 := Lib.hid (show Below wr.heap.size wr W7 by rw [hW7]; exact below_new (Below.refl _ _) _)
          have v0 : W7.cell? ⟨wr.heap.size, 0, none⟩ = some (.int .i64 (yn : Int)) := by rw [hW7]; go_simp
          have HOM7 := Lib.hid (HOM.out.keep (below_next (below_next (below_next B.out HBW.out) hbx) HB7.out)).on
          obtain ⟨A5, n5, c5, hlk, hrd, hn5⟩ := HOM7.out.lookup (upTo_mem.2 hyr) (by omega)
          have hlev : LevAt W7 wd wr.heap.size L yn := ⟨HL.out, range_keep (range_keep HRL.out (by omega) hbx) (by omega) HB7.out, v0, by omega, by omega, by omega⟩
          have HCF := Lib.hid (containsLevel_any wd wr.heap.size L yn A5 n5 c5 (adj (yn : Int)) W7 hlev hrd (fun u hu => by have := HCL.out u (HADJ.out _ u hu); omega))
          have HLV := Lib.hid (show (!(adj (yn : Int)).all fun q => !samB L yn q) = levB adj N (c : Int) (yn : Int) by rw [HLL.out]; exact samB_lev HS.out HN.out hc)
          rw [HLV.out] at HCF
          rw [hW7] at hlk
          clear hno hbx hy hlev hrd
          cases hl9 : levB adj N (c : Int) (yn : Int) with
          | true =>
            rw [hl9] at HCF
            have HL9 := Lib.hid hl9
            go_wp2_with fail
            rw [← hW7]
            clear hW7
            refine HCF.out.mono ?_
            rintro e w9 ⟨rfl, hb⟩
            clear HCF hlk v0 z0
            go_wp2
            go_ret
            have hf9 : tcB adj N = false := by
              rw [← Bool.not_eq_true, parts_two HS.out HN.out]
              intro h
              have h2 := h p (by rw [← HPS.out]; exact List.mem_of_getElem? HPK.out) (yn : Int) (List.mem_of_getElem? HY.out)
              rw [hhe.out, HL9.out] at h2; cases h2
            exact ⟨ret_bool (by rw [hf9]), below_next (below_next (below_next (below_next B.out HBW.out) HBX.out) HB7.out) hb⟩
          | false =>
            rw [hl9] at HCF
            have HL9 := Lib.hid hl9
            go_wp2_with fail
            rw [← hW7]
            clear hW7
            refine HCF.out.mono ?_
            rintro e w9 ⟨rfl, hb⟩
            clear HCF hlk v0 z0
            go_wp2
            go_roundw
            case rel => exact ⟨j + 1, by omega, by go_num, fun u hu => by
              rw [List.take_add_one, HY.out] at hu
              rcases List.mem_append.1 hu with hu | hu
              · exact NJ.out u hu
              · obtain rfl : u = (yn : Int) := by simpa using hu
                exact HL9.out, below_next (below_next HBX.out HB7.out) hb⟩
            case measure => simp [intOf]; omega
        · obtain rfl : j = n9 := by omega
          have HBX := Lib.hid hbx
          clear hno hbx
          go_wp2
          go_roundw
          case rel => exact ⟨k + 1, by omega, by go_num, fun u hu y hy => by
            rw [List.take_add_one, HPK.out] at hu
            rcases List.mem_append.1 hu with hu | hu
            · exact NO.out u hu y hy
            · obtain rfl : u = p := by simpa using hu
              rw [hhe.out]
              exact NJ.out y (by rw [List.take_of_length_le (by have := OWN.out.len; omega)]; exact hy), below_next HBW.out HBX.out⟩
          case measure => simp [intOf]; omega
    · obtain rfl : k = n' := by omega
      have ht9 : tcB adj N = true := (parts_two HS.out HN.out).2 (by rw [← HPS.out]; intro p hp; exact NO.out p (by rw [List.take_of_length_le (by have := HPL.out; omega)]; exact hp))
      have HT9 := Lib.hid ht9
      have HBW := Lib.hid hbw
      clear hno hbw ht9
      go_wp2
      go_ret
      exact ⟨ret_bool (by rw [HT9.out]), below_next B.out HBW.out⟩

set_option maxRecDepth 100000 in
set_option maxHeartbeats 2000000 in
theorem impl_TwoColoursAround (W H : Int) (ac up : Bool) (a b : Int) (w : World) :
    Calls Try.prog 49 #[ard W H ac up, lpr a b] w fun e w' => e = .returned (.tuple #[.bool (tcV W H ac up a b), .bool (twoA W H a b)]) ∧ Below w.heap.size w w' := by
  obtain ⟨W2, hW2⟩ : ∃ W2, W2 = (w.alloc (.cells #[.int .i64 W, .int .i64 H, .bool ac, .bool up] 25)).alloc (.cells #[.int .i64 a, .int .i64 b] 36) := ⟨_, rfl⟩
  have hsz : W2.heap.size = w.heap.size + 2 := by rw [hW2]; simp
  have a0 : W2.cell? ⟨w.heap.size, 0, none⟩ = some (.int .i64 W) := by rw [hW2]; go_simp
  have a1 : W2.cell? ⟨w.heap.size, 1, none⟩ = some (.int .i64 H) := by rw [hW2]; go_simp
  have a2 : W2.cell? ⟨w.heap.size, 2, none⟩ = some (.bool ac) := by rw [hW2]; go_simp
  have a3 : W2.cell? ⟨w.heap.size, 3, none⟩ = some (.bool up) := by rw [hW2]; go_simp
  have al : w.heap.size < W2.heap.size := by omega
  have l0 : W2.cell? ⟨w.heap.size + 1, 0, none⟩ = some (.int .i64 a) := by rw [hW2]; go_simp
  have l1 : W2.cell? ⟨w.heap.size + 1, 1, none⟩ = some (.int .i64 b) := by rw [hW2]; go_simp
  have ll : w.heap.size + 1 < W2.heap.size := by omega
  have B := Lib.hid (show Below w.heap.size w W2 by rw [hW2]; repeat (first | exact Below.refl _ _ | refine below_new ?_ _))
  have HE := Lib.hid (show (leaperB a b && aroundB W H []) = twoA W H a b by rw [aroundB_nil]; rfl)
  cases ht : twoA W H a b
  · have OK := Lib.hid ht
    go_enter Try.func49, Try.ntmps49
    go_wp2_with fail
    rw [← hW2]
    clear hW2
    refine (isLeaperAround_any W H ac up a b none 0 0 [] _ (Rd.nil _ _)).mono ?_
    rw [HE.out, ht]
    rintro e wv ⟨rfl, hb⟩
    replace a0 := cell_keep a0 al hb
    replace a1 := cell_keep a1 al hb
    replace a2 := cell_keep a2 al hb
    replace a3 := cell_keep a3 al hb
    replace al := lt_keep al hb
    replace l0 := cell_keep l0 ll hb
    replace l1 := cell_keep l1 ll hb
    replace ll := lt_keep ll hb
    replace B := Lib.hid (below_next B.out hb)
    clear hb
    clear HE
    clear a0 a1 a2 a3 l0 l1 al ll
    go_wp2
    go_ret2
    exact ⟨by rw [tcV_no OK.out]; rfl, B.out⟩
  · have HT := Lib.hid ht
    have HF := Lib.hid (ar_facts ht)
    obtain ⟨N, hN⟩ : ∃ N, (W * H).toNat = N := ⟨_, rfl⟩
    rw [hN] at HF
    have hWH := HF.out.wh
    have N2 := HF.out.n.2
    have N1 := HF.out.n.1
    have hN0 : (0 : Int) ≤ (N : Int) := by omega
    have HNN := Lib.hid hN
    have HV := Lib.hid (show tcV W H ac up a b = tcB (leapsA W H ac up a b) N by rw [tcV, ht, ← hN]; rfl)
    clear hN
    go_enter Try.func49, Try.ntmps49
    go_wp2_with fail
    rw [← hW2]
    clear hW2
    refine (isLeaperAround_any W H ac up a b none 0 0 [] _ (Rd.nil _ _)).mono ?_
    rw [HE.out, ht]
    rintro e wv ⟨rfl, hb⟩
    replace a0 := cell_keep a0 al hb
    replace a1 := cell_keep a1 al hb
    replace a2 := cell_keep a2 al hb
    replace a3 := cell_keep a3 al hb
    replace al := lt_keep al hb
    replace l0 := cell_keep l0 ll hb
    replace l1 := cell_keep l1 ll hb
    replace ll := lt_keep ll hb
    replace B := Lib.hid (below_next B.out hb)
    clear hb
    clear HE
    go_wp2_with fail
    refine (onwardAroundK_any W H ac up a b _ HF.out.g HF.out.l).mono ?_
    rintro e wx ⟨mb, rfl, hom, hb⟩
    rw [HNN.out] at hom
    replace B := Lib.hid (below_next B.out hb)
    clear hb
    clear a0 a1 a2 a3 l0 l1 al ll
    go_wp2_with fail
    refine (haveTwo_any (leapsA W H ac up a b) N _ mb _ hom (symA HF.out) N2 (adjA_in HF.out)).mono ?_
    rintro e wy ⟨rfl, hb⟩
    replace B := Lib.hid (below_next B.out hb)
    clear hb hom
    go_wp2
    go_ret2
    exact ⟨by rw [HV.out]; rfl, B.out⟩

end Go.Proofs.Ytaliknhfcdmohaa

namespace Go.Proofs.Ytaliknhfcdmohaa
open Go.RowKit

set_option maxHeartbeats 4000000 in
set_option maxRecDepth 100000 in
theorem law_TwoColoursAround (w : World) (W H : Int) (ac up : Bool) (a b : Int) :
    Calls Try.prog 16 #[ard W H ac up, lpr a b] w fun e w' => e = .returned (.bool true) ∧ Below w.heap.size w w' := by
  obtain ⟨W2, hW2⟩ : ∃ W2, W2 = (w.alloc (.cells #[.int .i64 W, .int .i64 H, .bool ac, .bool up] 23)).alloc (.cells #[.int .i64 a, .int .i64 b] 32) := ⟨_, rfl⟩
  have hsz : W2.heap.size = w.heap.size + 2 := by rw [hW2]; simp
  have a0 : W2.cell? ⟨w.heap.size, 0, none⟩ = some (.int .i64 W) := by rw [hW2]; go_simp
  have a1 : W2.cell? ⟨w.heap.size, 1, none⟩ = some (.int .i64 H) := by rw [hW2]; go_simp
  have a2 : W2.cell? ⟨w.heap.size, 2, none⟩ = some (.bool ac) := by rw [hW2]; go_simp
  have a3 : W2.cell? ⟨w.heap.size, 3, none⟩ = some (.bool up) := by rw [hW2]; go_simp
  have al : w.heap.size < W2.heap.size := by omega
  have l0 : W2.cell? ⟨w.heap.size + 1, 0, none⟩ = some (.int .i64 a) := by rw [hW2]; go_simp
  have l1 : W2.cell? ⟨w.heap.size + 1, 1, none⟩ = some (.int .i64 b) := by rw [hW2]; go_simp
  have ll : w.heap.size + 1 < W2.heap.size := by omega
  have B := Lib.hid (show Below w.heap.size w W2 by rw [hW2]; repeat (first | exact Below.refl _ _ | refine below_new ?_ _))
  have hs0 := Lib.hid B.out.size
  go_enter Try.func16, Try.ntmps16
  go_wp2_with fail
  rw [← hW2]
  clear hW2
  refine wp_region_held_drew (S := fun w' => w'.cell? ⟨w.heap.size, 0, none⟩ = some (.int .i64 W) ∧ w'.cell? ⟨w.heap.size, 1, none⟩ = some (.int .i64 H) ∧ w'.cell? ⟨w.heap.size, 2, none⟩ = some (.bool ac) ∧ w'.cell? ⟨w.heap.size, 3, none⟩ = some (.bool up) ∧ w'.cell? ⟨w.heap.size + 1, 0, none⟩ = some (.int .i64 a) ∧ w'.cell? ⟨w.heap.size + 1, 1, none⟩ = some (.int .i64 b)) (by kernel_rfl) ?_ (fun hHeld => ?_)
  · (try dsimp only)
    exact ⟨a0, a1, a2, a3, l0, l1⟩
  refine wpAnyH_take (i := 0) (oi := ⟨_, _, _, _, _, _⟩) (v := ?_) rfl (by kernel_rfl) (by kernel_rfl) (by kernel_rfl) (fun _ _ _ h => h) (Or.inl ⟨by rfl, ?_⟩) (by assumption) ?_
  rotate_left
  · intro w hSw
    (try dsimp only at hSw)
    go_simp
    (try with_reducible rfl)
  (try simp only [Act.put, List.setIfInBounds_toArray, List.set_cons_zero, List.set_cons_succ])
  refine wpAnyH_take (i := 2) (oi := ⟨_, _, _, _, _, _⟩) (v := ?_) rfl (by kernel_rfl) (by kernel_rfl) (by kernel_rfl) (fun _ _ _ h => h) (Or.inl ⟨by rfl, ?_⟩) (by assumption) ?_
  rotate_left
  · intro w hSw
    (try dsimp only at hSw)
    go_simp
    (try with_reducible rfl)
  (try simp only [Act.put, List.setIfInBounds_toArray, List.set_cons_zero, List.set_cons_succ])
  refine wpAnyH_ready (rs := [1]) (by kernel_rfl) (by simp) ?_
  refine AllReadyH.cons (o := ⟨_, _, _, _, _, _⟩) rfl (fun K hK => ?_) AllReadyH.nil
  go_simp
  (go_at_call 18; refine (toAround_any _ _ _ _ _).mono ?_; rintro e wv ⟨rfl, hb⟩; (repeat (first | replace hb := below_undrew hb | replace hb := below_undrewN hb)); have hs1 := Lib.hid hb.size; replace a0 := cell_keep a0 al hb; replace a1 := cell_keep a1 al hb; replace a2 := cell_keep a2 al hb; replace a3 := cell_keep a3 al hb; replace al := lt_keep al hb; replace l0 := cell_keep l0 ll hb; replace l1 := cell_keep l1 ll hb; replace ll := lt_keep ll hb; replace B := Lib.hid (below_next B.out hb); clear hb)
  (try go_wp2_with fail)
  refine hK.out _ _ ?_ (fun hHeld => ?_)
  · (try dsimp only)
    exact ⟨a0, a1, a2, a3, l0, l1⟩
  clear hK K
  (try simp only [Act.put, List.setIfInBounds_toArray, List.set_cons_zero, List.set_cons_succ])
  refine wpAnyH_ready (rs := [3]) (by kernel_rfl) (by simp) ?_
  refine AllReadyH.cons (o := ⟨_, _, _, _, _, _⟩) rfl (fun K hK => ?_) AllReadyH.nil
  go_simp
  (go_at_call 23; refine (toLeaper_any _ _ _).mono ?_; rintro e wv ⟨rfl, hb⟩; (repeat (first | replace hb := below_undrew hb | replace hb := below_undrewN hb)); have hs2 := Lib.hid hb.size; replace a0 := cell_keep a0 al hb; replace a1 := cell_keep a1 al hb; replace a2 := cell_keep a2 al hb; replace a3 := cell_keep a3 al hb; replace al := lt_keep al hb; replace l0 := cell_keep l0 ll hb; replace l1 := cell_keep l1 ll hb; replace ll := lt_keep ll hb; replace B := Lib.hid (below_next B.out hb); clear hb)
  (try go_wp2_with fail)
  refine hK.out _ _ ?_ (fun hHeld => ?_)
  · (try dsimp only)
    exact ⟨a0, a1, a2, a3, l0, l1⟩
  clear hK K
  (try simp only [Act.put, List.setIfInBounds_toArray, List.set_cons_zero, List.set_cons_succ])
  refine wpAnyH_ready (rs := [4]) (by kernel_rfl) (by simp) ?_
  refine AllReadyH.cons (o := ⟨_, _, _, _, _, _⟩) rfl (fun K hK => ?_) AllReadyH.nil
  go_simp
  (go_at_call 48; refine (spec_TwoColoursAround _ _ _ _ _ _ _).mono ?_; rintro e wv ⟨rfl, hb⟩; (repeat (first | replace hb := below_undrew hb | replace hb := below_undrewN hb)); have hs3 := Lib.hid hb.size; replace a0 := cell_keep a0 al hb; replace a1 := cell_keep a1 al hb; replace a2 := cell_keep a2 al hb; replace a3 := cell_keep a3 al hb; replace al := lt_keep al hb; replace l0 := cell_keep l0 ll hb; replace l1 := cell_keep l1 ll hb; replace ll := lt_keep ll hb; replace B := Lib.hid (below_next B.out hb); clear hb)
  (try go_wp2_with fail)
  refine hK.out _ _ ?_ (fun hHeld => ?_)
  · (try dsimp only)
    exact ⟨a0, a1, a2, a3, l0, l1⟩
  clear hK K
  (try simp only [Act.put, List.setIfInBounds_toArray, List.set_cons_zero, List.set_cons_succ])
  refine wpAnyH_take (i := 5) (oi := ⟨_, _, _, _, _, _⟩) (v := ?_) rfl (by kernel_rfl) (by kernel_rfl) (by kernel_rfl) (fun _ _ _ h => h) (Or.inl ⟨by rfl, ?_⟩) (by assumption) ?_
  rotate_left
  · intro w hSw
    (try dsimp only at hSw)
    go_simp
    (try with_reducible rfl)
  (try simp only [Act.put, List.setIfInBounds_toArray, List.set_cons_zero, List.set_cons_succ])
  refine wpAnyH_take (i := 6) (oi := ⟨_, _, _, _, _, _⟩) (v := ?_) rfl (by kernel_rfl) (by kernel_rfl) (by kernel_rfl) (fun _ _ _ h => h) (Or.inl ⟨by rfl, ?_⟩) (by assumption) ?_
  rotate_left
  · intro w hSw
    (try dsimp only at hSw)
    go_simp
    (try with_reducible rfl)
  (try simp only [Act.put, List.setIfInBounds_toArray, List.set_cons_zero, List.set_cons_succ])
  refine wpAnyH_take (i := 7) (oi := ⟨_, _, _, _, _, _⟩) (v := ?_) rfl (by kernel_rfl) (by kernel_rfl) (by kernel_rfl) (fun _ _ _ h => h) (Or.inl ⟨by rfl, ?_⟩) (by assumption) ?_
  rotate_left
  · intro w hSw
    (try dsimp only at hSw)
    go_simp
    (try with_reducible rfl)
  (try simp only [Act.put, List.setIfInBounds_toArray, List.set_cons_zero, List.set_cons_succ])
  refine wpAnyH_take (i := 8) (oi := ⟨_, _, _, _, _, _⟩) (v := ?_) rfl (by kernel_rfl) (by kernel_rfl) (by kernel_rfl) (fun _ _ _ h => h) (Or.inl ⟨by rfl, ?_⟩) (by assumption) ?_
  rotate_left
  · intro w hSw
    (try dsimp only at hSw)
    go_simp
    (try with_reducible rfl)
  (try simp only [Act.put, List.setIfInBounds_toArray, List.set_cons_zero, List.set_cons_succ])
  refine wpAnyH_take (i := 9) (oi := ⟨_, _, _, _, _, _⟩) (v := ?_) rfl (by kernel_rfl) (by kernel_rfl) (by kernel_rfl) (fun _ _ _ h => h) (Or.inl ⟨by rfl, ?_⟩) (by assumption) ?_
  rotate_left
  · intro w hSw
    (try dsimp only at hSw)
    go_simp
    (try with_reducible rfl)
  (try simp only [Act.put, List.setIfInBounds_toArray, List.set_cons_zero, List.set_cons_succ])
  refine wpAnyH_done (by kernel_rfl) ?_ _
  clear hHeld
  go_wp2_with fail
  refine wp_region_held_drew (S := fun w' => w'.cell? ⟨w.heap.size, 0, none⟩ = some (.int .i64 W) ∧ w'.cell? ⟨w.heap.size, 1, none⟩ = some (.int .i64 H) ∧ w'.cell? ⟨w.heap.size, 2, none⟩ = some (.bool ac) ∧ w'.cell? ⟨w.heap.size, 3, none⟩ = some (.bool up) ∧ w'.cell? ⟨w.heap.size + 1, 0, none⟩ = some (.int .i64 a) ∧ w'.cell? ⟨w.heap.size + 1, 1, none⟩ = some (.int .i64 b)) (by kernel_rfl) ?_ (fun hHeld => ?_)
  · (try dsimp only)
    exact ⟨a0, a1, a2, a3, l0, l1⟩
  refine wpAnyH_take (i := 0) (oi := ⟨_, _, _, _, _, _⟩) (v := ?_) rfl (by kernel_rfl) (by kernel_rfl) (by kernel_rfl) (fun _ _ _ h => h) (Or.inl ⟨by rfl, ?_⟩) (by assumption) ?_
  rotate_left
  · intro w hSw
    (try dsimp only at hSw)
    go_simp
    (try with_reducible rfl)
  (try simp only [Act.put, List.setIfInBounds_toArray, List.set_cons_zero, List.set_cons_succ])
  refine wpAnyH_take (i := 2) (oi := ⟨_, _, _, _, _, _⟩) (v := ?_) rfl (by kernel_rfl) (by kernel_rfl) (by kernel_rfl) (fun _ _ _ h => h) (Or.inl ⟨by rfl, ?_⟩) (by assumption) ?_
  rotate_left
  · intro w hSw
    (try dsimp only at hSw)
    go_simp
    (try with_reducible rfl)
  (try simp only [Act.put, List.setIfInBounds_toArray, List.set_cons_zero, List.set_cons_succ])
  refine wpAnyH_ready (rs := [1]) (by kernel_rfl) (by simp) ?_
  refine AllReadyH.cons (o := ⟨_, _, _, _, _, _⟩) rfl (fun K hK => ?_) AllReadyH.nil
  go_simp
  (go_at_call 18; refine (toAround_any _ _ _ _ _).mono ?_; rintro e wv ⟨rfl, hb⟩; (repeat (first | replace hb := below_undrew hb | replace hb := below_undrewN hb)); have hs4 := Lib.hid hb.size; replace a0 := cell_keep a0 al hb; replace a1 := cell_keep a1 al hb; replace a2 := cell_keep a2 al hb; replace a3 := cell_keep a3 al hb; replace al := lt_keep al hb; replace l0 := cell_keep l0 ll hb; replace l1 := cell_keep l1 ll hb; replace ll := lt_keep ll hb; replace B := Lib.hid (below_next B.out hb); clear hb)
  (try go_wp2_with fail)
  refine hK.out _ _ ?_ (fun hHeld => ?_)
  · (try dsimp only)
    exact ⟨a0, a1, a2, a3, l0, l1⟩
  clear hK K
  (try simp only [Act.put, List.setIfInBounds_toArray, List.set_cons_zero, List.set_cons_succ])
  refine wpAnyH_ready (rs := [3]) (by kernel_rfl) (by simp) ?_
  refine AllReadyH.cons (o := ⟨_, _, _, _, _, _⟩) rfl (fun K hK => ?_) AllReadyH.nil
  go_simp
  (go_at_call 23; refine (toLeaper_any _ _ _).mono ?_; rintro e wv ⟨rfl, hb⟩; (repeat (first | replace hb := below_undrew hb | replace hb := below_undrewN hb)); have hs5 := Lib.hid hb.size; replace a0 := cell_keep a0 al hb; replace a1 := cell_keep a1 al hb; replace a2 := cell_keep a2 al hb; replace a3 := cell_keep a3 al hb; replace al := lt_keep al hb; replace l0 := cell_keep l0 ll hb; replace l1 := cell_keep l1 ll hb; replace ll := lt_keep ll hb; replace B := Lib.hid (below_next B.out hb); clear hb)
  (try go_wp2_with fail)
  refine hK.out _ _ ?_ (fun hHeld => ?_)
  · (try dsimp only)
    exact ⟨a0, a1, a2, a3, l0, l1⟩
  clear hK K
  (try simp only [Act.put, List.setIfInBounds_toArray, List.set_cons_zero, List.set_cons_succ])
  refine wpAnyH_ready (rs := [4]) (by kernel_rfl) (by simp) ?_
  refine AllReadyH.cons (o := ⟨_, _, _, _, _, _⟩) rfl (fun K hK => ?_) AllReadyH.nil
  go_simp
  (go_at_call 49; refine (impl_TwoColoursAround _ _ _ _ _ _ _).mono ?_; rintro e wv ⟨rfl, hb⟩; (repeat (first | replace hb := below_undrew hb | replace hb := below_undrewN hb)); have hs6 := Lib.hid hb.size; replace a0 := cell_keep a0 al hb; replace a1 := cell_keep a1 al hb; replace a2 := cell_keep a2 al hb; replace a3 := cell_keep a3 al hb; replace al := lt_keep al hb; replace l0 := cell_keep l0 ll hb; replace l1 := cell_keep l1 ll hb; replace ll := lt_keep ll hb; replace B := Lib.hid (below_next B.out hb); clear hb)
  (try go_wp2_with fail)
  refine hK.out _ _ ?_ (fun hHeld => ?_)
  · (try dsimp only)
    exact ⟨a0, a1, a2, a3, l0, l1⟩
  clear hK K
  (try simp only [Act.put, List.setIfInBounds_toArray, List.set_cons_zero, List.set_cons_succ])
  refine wpAnyH_take (i := 5) (oi := ⟨_, _, _, _, _, _⟩) (v := ?_) rfl (by kernel_rfl) (by kernel_rfl) (by kernel_rfl) (fun _ _ _ h => h) (Or.inl ⟨by rfl, ?_⟩) (by assumption) ?_
  rotate_left
  · intro w hSw
    (try dsimp only at hSw)
    go_simp
    (try with_reducible rfl)
  (try simp only [Act.put, List.setIfInBounds_toArray, List.set_cons_zero, List.set_cons_succ])
  refine wpAnyH_take (i := 6) (oi := ⟨_, _, _, _, _, _⟩) (v := ?_) rfl (by kernel_rfl) (by kernel_rfl) (by kernel_rfl) (fun _ _ _ h => h) (Or.inl ⟨by rfl, ?_⟩) (by assumption) ?_
  rotate_left
  · intro w hSw
    (try dsimp only at hSw)
    go_simp
    (try with_reducible rfl)
  (try simp only [Act.put, List.setIfInBounds_toArray, List.set_cons_zero, List.set_cons_succ])
  refine wpAnyH_take (i := 7) (oi := ⟨_, _, _, _, _, _⟩) (v := ?_) rfl (by kernel_rfl) (by kernel_rfl) (by kernel_rfl) (fun _ _ _ h => h) (Or.inl ⟨by rfl, ?_⟩) (by assumption) ?_
  rotate_left
  · intro w hSw
    (try dsimp only at hSw)
    go_simp
    (try with_reducible rfl)
  (try simp only [Act.put, List.setIfInBounds_toArray, List.set_cons_zero, List.set_cons_succ])
  refine wpAnyH_take (i := 8) (oi := ⟨_, _, _, _, _, _⟩) (v := ?_) rfl (by kernel_rfl) (by kernel_rfl) (by kernel_rfl) (fun _ _ _ h => h) (Or.inl ⟨by rfl, ?_⟩) (by assumption) ?_
  rotate_left
  · intro w hSw
    (try dsimp only at hSw)
    go_simp
    (try with_reducible rfl)
  (try simp only [Act.put, List.setIfInBounds_toArray, List.set_cons_zero, List.set_cons_succ])
  refine wpAnyH_take (i := 9) (oi := ⟨_, _, _, _, _, _⟩) (v := ?_) rfl (by kernel_rfl) (by kernel_rfl) (by kernel_rfl) (fun _ _ _ h => h) (Or.inl ⟨by rfl, ?_⟩) (by assumption) ?_
  rotate_left
  · intro w hSw
    (try dsimp only at hSw)
    go_simp
    (try with_reducible rfl)
  (try simp only [Act.put, List.setIfInBounds_toArray, List.set_cons_zero, List.set_cons_succ])
  refine wpAnyH_done (by kernel_rfl) ?_ _
  clear hHeld
  clear a0 a1 a2 a3 l0 l1 al ll
  go_wp2
  go_ret
  exact ⟨rfl, (by repeat (first | exact B.out | refine below_drewN ?_ _ | refine Below.drew ?_))⟩

end Go.Proofs.Ytaliknhfcdmohaa
