/-
  Contracts: the leaps from a cell around, in the model.
-/
import Derived.Test.YtaliknhfcdmohaaO4
import Derived.Test.YtaliknhfcdmohaaU1
import Derived.Test.YtaliknhfcdmohaaV1
namespace Go.Proofs.Ytaliknhfcdmohaa
open Go.RowKit

theorem insI_has {x : Int} {l : List Int} (h : l.Pairwise (· < ·)) (hx : x ∈ l) : insI x l = l :=
  rise_unique (insI_rise x l h) h fun c => by rw [insI_mem]; exact ⟨fun hc => hc.elim (fun e => e ▸ hx) id, .inr⟩
theorem accA_yes {W H q : Int} {ac up : Bool} {l : List (Int × Int)} {k : Nat} {p : Int × Int} (hx : l[k]? = some p) (h : okA W H ac up q p = true) : accA W H ac up q (l.take (k + 1)) = insI (stepA W H ac up q p.1 p.2) (accA W H ac up q (l.take k)) := by
  rw [List.take_add_one, hx]; simp only [Option.toList_some]; rw [accA_snoc, if_pos h]
theorem accA_no {W H q : Int} {ac up : Bool} {l : List (Int × Int)} {k : Nat} {p : Int × Int} (hx : l[k]? = some p) (h : ¬ okA W H ac up q p = true) : accA W H ac up q (l.take (k + 1)) = accA W H ac up q (l.take k) := by
  rw [List.take_add_one, hx]; simp only [Option.toList_some]; rw [accA_snoc, if_neg h]

set_option maxRecDepth 100000 in
set_option maxHeartbeats 4000000 in
theorem arLeaps_any (W H : Int) (ac up : Bool) (a b q : Int) (w : World) (hg : goodA W H = true) (hl : leaperB a b = true) (hq : 0 ≤ q ∧ q < W * H) :
    Calls Try.prog 61 #[ard W H ac up, lpr a b, .int .i64 q] w fun e w' => ∃ A' n' c', e = .returned (.slice A' n' c') ∧ OwnI 3 w' w.heap.size A' n' c' (leapsA W H ac up a b q) ∧ Below w.heap.size w w' := by
  have HG := Lib.hid hg; have HL := Lib.hid hl; have HQ := Lib.hid hq
  have HLA := Lib.hid (accA_all W H ac up a b q)
  clear hg hl hq
  obtain ⟨W2, hW2⟩ : ∃ W2, W2 = (w.alloc (.cells #[.int .i64 W, .int .i64 H, .bool ac, .bool up] 25)).alloc (.cells #[.int .i64 a, .int .i64 b] 36) := ⟨_, rfl⟩
  have hsz : W2.heap.size = w.heap.size + 2 := by rw [hW2]; simp
  have a0 : W2.cell? ⟨w.heap.size, 0, none⟩ = some (.int .i64 W) := by rw [hW2]; go_simp
  have a1 : W2.cell? ⟨w.heap.size, 1, none⟩ = some (.int .i64 H) := by rw [hW2]; go_simp
  have a2 : W2.cell? ⟨w.heap.size, 2, none⟩ = some (.bool ac) := by rw [hW2]; go_simp
  have a3 : W2.cell? ⟨w.heap.size, 3, none⟩ = some (.bool up) := by rw [hW2]; go_simp
  have al : w.heap.size < W2.heap.size := by omega
  have l0 : W2.cell? ⟨w.heap.size + 1, 0, none⟩ = some (.int .i64 a) := by rw [hW2]; go_simp
  have l1 : W2.cell? ⟨w.heap.size + 1, 1, none⟩ = some (.int .i64 b) := by rw [hW2]; go_simp
  have ll : w.heap.size + 1 < W2.heap.size := by omega
  have B := Lib.hid (show Below w.heap.size w W2 by rw [hW2]; repeat (first | exact Below.refl _ _ | refine below_new ?_ _))
  go_enter Try.func61, Try.ntmps61
  go_wp2_with fail
  rw [← hW2]
  clear hW2
  refine (boSteps_any a b _ HL.out).mono ?_
  rintro e ws ⟨A1, n1, c1, top, rfl, hpa, hb⟩
  replace a0 := cell_keep a0 al hb
  replace a1 := cell_keep a1 al hb
  replace a2 := cell_keep a2 al hb
  replace a3 := cell_keep a3 al hb
  replace al := lt_keep al hb
  replace l0 := cell_keep l0 ll hb
  replace l1 := cell_keep l1 ll hb
  replace ll := lt_keep ll hb
  replace B := Lib.hid (below_next B.out hb)
  have HSS := Lib.hid (OwnSS.of hpa)
  have SLN := Lib.hid (show (stepsL a b).length = n1 by have := hpa.len; rw [List.length_map] at this; exact this)
  have n8 : n1 ≤ 8 := by have := SLN.out; have := stepsL_len HL.out; omega
  clear hpa hb l0 l1 ll hsz
  go_wp2
  go_loopw [7, 14] (fun v i wr => ∃ (k n' c' : Nat) (A' : Option Addr), k ≤ n1 ∧ i = .int .i64 k ∧ v = .slice A' n' c' ∧ OwnI 3 wr ws.heap.size A' n' c' (accA W H ac up q ((stepsL a b).take k)) ∧ Below ws.heap.size ws wr) (fun _ i _ => n1 - (intOf i).toNat)
  case atStart => exact ⟨0, 0, 0, none, by omega, rfl, rfl, OwnI.none_ _ _ _, Below.refl _ _⟩
  case round =>
    obtain ⟨k, n', c', A', hk, rfl, rfl, hown, hbw⟩ := hrel
    by_cases hlt : k < n1
    · obtain ⟨g, V, mm, kk, pp, rfl, hg, hcl, hpp, hrow, hVb, -⟩ := (HSS.out.keep hbw).at_ hlt
      obtain ⟨⟨dx, dy⟩, hx⟩ : ∃ p, (stepsL a b)[k]? = some p := ⟨_, List.getElem?_eq_getElem (show k < (stepsL a b).length by have := SLN.out; omega)⟩
      have hpe : pp = [dx, dy] := by rw [List.getElem?_map, hx] at hpp; simp [pairL] at hpp; exact hpp.symm
      subst hpe
      have hmm : mm = 2 := by have := hrow.len; simp at this; omega
      subst hmm
      obtain ⟨gv, rfl, hgv, hgv2⟩ := hrow.some_ (k := 0) (by omega)
      have x0 := hrow.cell (k := 0) (x := dx) rfl
      have x1 := hrow.cell (k := 1) (x := dy) rfl
      have hcap := hrow.cap
      have hbd := stepsL_bd HL.out (List.mem_of_getElem? hx)
      simp only at hbd
      have HSC := Lib.hid (fun w' => arStep_any W H ac up q dx dy w' HG.out HQ.out (by omega) (by omega))
      have HYES := Lib.hid (accA_yes (W := W) (H := H) (q := q) (ac := ac) (up := up) hx); have HNO := Lib.hid (accA_no (W := W) (H := H) (q := q) (ac := ac) (up := up) hx)
      have HFC := Lib.hid (accA_facts W H ac up q ((stepsL a b).take k))
      have HRG := Lib.hid (stepA_rng W H ac up q dx dy)
      have hn8 : n' ≤ 8 := by have h1 := hown.len; have h2 := HFC.out.2.1; rw [List.length_take] at h2; omega
      have HOI := Lib.hid (okA_iff (W := W) (H := H) (q := q) (ac := ac) (up := up) (p := (dx, dy)))
      simp only at HYES
      obtain ⟨S, hS⟩ : ∃ S, stepA W H ac up q dx dy = S := ⟨_, rfl⟩
      rw [hS] at HSC HYES HRG HOI
      have HX := Lib.hid hx; have HO := Lib.hid hown; have HB := Lib.hid hbw
      have b0 := cell_keep a0 al hbw; have b1 := cell_keep a1 al hbw; have b2 := cell_keep a2 al hbw; have b3 := cell_keep a3 al hbw
      have bl := lt_keep al hbw
      have hsw := hbw.size
      clear hx hown hbw hpp hrow hVb hbd hS hgv
      go_wp2_with fail
      refine wp_region_held_drew (S := fun w' => w'.cell? ⟨w.heap.size, 0, none⟩ = some (.int .i64 W) ∧ w'.cell? ⟨w.heap.size, 1, none⟩ = some (.int .i64 H) ∧ w'.cell? ⟨w.heap.size, 2, none⟩ = some (.bool ac) ∧ w'.cell? ⟨w.heap.size, 3, none⟩ = some (.bool up) ∧ w'.cell? ⟨gv, 0, none⟩ = some (.int .i64 dx) ∧ w'.cell? ⟨gv, 1, none⟩ = some (.int .i64 dy)) (by kernel_rfl) ?_ (fun hHeld => ?_)
      · (try dsimp only)
        exact ⟨b0, b1, b2, b3, x0, x1⟩
      refine wpAnyH_take (i := 0) (oi := ⟨_, _, _, _, _, _⟩) (v := ?_) rfl (by kernel_rfl) (by kernel_rfl) (by kernel_rfl) (fun _ _ _ h => h) (Or.inl ⟨by rfl, ?_⟩) (by assumption) ?_
      rotate_left
      · intro w hSw
        (try dsimp only at hSw)
        go_simp
        (try with_reducible rfl)
      (try simp only [Act.put, List.setIfInBounds_toArray, List.set_cons_zero, List.set_cons_succ])
      refine wpAnyH_take (i := 1) (oi := ⟨_, _, _, _, _, _⟩) (v := ?_) rfl (by kernel_rfl) (by kernel_rfl) (by kernel_rfl) (fun _ _ _ h => h) (Or.inl ⟨by rfl, ?_⟩) (by assumption) ?_
      rotate_left
      · intro w hSw
        (try dsimp only at hSw)
        go_simp
        (try with_reducible rfl)
      (try simp only [Act.put, List.setIfInBounds_toArray, List.set_cons_zero, List.set_cons_succ])
      refine wpAnyH_take (i := 2) (oi := ⟨_, _, _, _, _, _⟩) (v := ?_) rfl (by kernel_rfl) (by kernel_rfl) (by kernel_rfl) (fun _ _ _ h => h) (Or.inl ⟨by rfl, ?_⟩) (by assumption) ?_
      rotate_left
      · intro w hSw
        (try dsimp only at hSw)
        go_simp
        (try with_reducible rfl)
      (try simp only [Act.put, List.setIfInBounds_toArray, List.set_cons_zero, List.set_cons_succ])
      refine wpAnyH_take (i := 5) (oi := ⟨_, _, _, _, _, _⟩) (v := ?_) rfl (by kernel_rfl) (by kernel_rfl) (by kernel_rfl) (fun _ _ _ h => h) (Or.inl ⟨by rfl, ?_⟩) (by assumption) ?_
      rotate_left
      · intro w hSw
        (try dsimp only at hSw)
        go_simp
        (try with_reducible rfl)
      (try simp only [Act.put, List.setIfInBounds_toArray, List.set_cons_zero, List.set_cons_succ])
      refine wpAnyH_take (i := 3) (oi := ⟨_, _, _, _, _, _⟩) (v := ?_) rfl (by kernel_rfl) (by kernel_rfl) (by kernel_rfl) (fun _ _ _ h => h) (Or.inl ⟨by rfl, ?_⟩) (by assumption) ?_
      rotate_left
      · intro w hSw
        (try dsimp only at hSw)
        go_simp
        (try with_reducible rfl)
      (try simp only [Act.put, List.setIfInBounds_toArray, List.set_cons_zero, List.set_cons_succ])
      refine wpAnyH_take (i := 6) (oi := ⟨_, _, _, _, _, _⟩) (v := ?_) rfl (by kernel_rfl) (by kernel_rfl) (by kernel_rfl) (fun _ _ _ h => h) (Or.inl ⟨by rfl, ?_⟩) (by assumption) ?_
      rotate_left
      · intro w hSw
        (try dsimp only at hSw)
        go_simp
        (try with_reducible rfl)
      (try simp only [Act.put, List.setIfInBounds_toArray, List.set_cons_zero, List.set_cons_succ])
      refine wpAnyH_take (i := 4) (oi := ⟨_, _, _, _, _, _⟩) (v := ?_) rfl (by kernel_rfl) (by kernel_rfl) (by kernel_rfl) (fun _ _ _ h => h) (Or.inl ⟨by rfl, ?_⟩) (by assumption) ?_
      rotate_left
      · intro w hSw
        (try dsimp only at hSw)
        go_simp
        (try with_reducible rfl)
      (try simp only [Act.put, List.setIfInBounds_toArray, List.set_cons_zero, List.set_cons_succ])
      refine wpAnyH_take (i := 7) (oi := ⟨_, _, _, _, _, _⟩) (v := ?_) rfl (by kernel_rfl) (by kernel_rfl) (by kernel_rfl) (fun _ _ _ h => h) (Or.inl ⟨by rfl, ?_⟩) (by assumption) ?_
      rotate_left
      · intro w hSw
        (try dsimp only at hSw)
        go_simp
        (try with_reducible rfl)
      (try simp only [Act.put, List.setIfInBounds_toArray, List.set_cons_zero, List.set_cons_succ])
      refine wpAnyH_ready (rs := [8]) (by kernel_rfl) (by simp) ?_
      refine AllReadyH.cons (o := ⟨_, _, _, _, _, _⟩) rfl (fun K hK => ?_) AllReadyH.nil
      go_simp
      (go_at_call 54; refine (HSC.out _).mono ?_; rintro e wx ⟨rfl, hb⟩; (repeat (first | replace hb := below_undrew hb | replace hb := below_undrewN hb)); replace b0 := cell_keep b0 bl hb; replace b1 := cell_keep b1 bl hb; replace b2 := cell_keep b2 bl hb; replace b3 := cell_keep b3 bl hb; replace bl := lt_keep bl hb; replace x0 := cell_keep x0 hgv2 hb; replace x1 := cell_keep x1 hgv2 hb; replace hgv2 := lt_keep hgv2 hb; replace HO := Lib.hid (HO.out.keep hb); replace HB := Lib.hid (HB.out.trans (hb.mono HB.out.size)); replace hsw := Nat.le_trans hsw hb.size; clear hb)
      (try go_wp2_with fail)
      refine hK.out _ _ ?_ (fun hHeld => ?_)
      · (try dsimp only)
        exact ⟨b0, b1, b2, b3, x0, x1⟩
      clear hK K
      (try simp only [Act.put, List.setIfInBounds_toArray, List.set_cons_zero, List.set_cons_succ])
      refine wpAnyH_take (i := 9) (oi := ⟨_, _, _, _, _, _⟩) (v := ?_) rfl (by kernel_rfl) (by kernel_rfl) (by kernel_rfl) (fun _ _ _ h => h) (Or.inl ⟨by rfl, ?_⟩) (by assumption) ?_
      rotate_left
      · intro w hSw
        (try dsimp only at hSw)
        go_simp
        (try with_reducible rfl)
      (try simp only [Act.put, List.setIfInBounds_toArray, List.set_cons_zero, List.set_cons_succ])
      refine wpAnyH_done (by kernel_rfl) ?_ _
      clear hHeld x0 x1 hcl hgv2 hcap
      cases hok : okA W H ac up q (dx, dy) with
      | false =>
        have HE := Lib.hid (HNO.out (by rw [hok]; simp))
        have hn : ¬ (0 ≤ S ∧ S ≠ q) := fun h => by have := HOI.out.2 h; rw [hok] at this; cases this
        clear hok
        by_cases hs : 0 ≤ S
        · have hsq : S = q := by omega
          subst hsq
          go_wp2
          go_roundw
          case rel => exact ⟨k + 1, n', c', A', by omega, by go_num, rfl, by rw [HE.out]; exact HO.out, HB.out⟩
          case measure => simp [intOf]; omega
        · go_wp2
          go_roundw
          case rel => exact ⟨k + 1, n', c', A', by omega, by go_num, rfl, by rw [HE.out]; exact HO.out, HB.out⟩
          case measure => simp [intOf]; omega
      | true =>
        have HE := Lib.hid (HYES.out hok)
        obtain ⟨hs, hsq⟩ := HOI.out.1 hok
        have hsq2 : (S == q) = false := by simpa using hsq
        clear hok
        cases hc : (accA W H ac up q ((stepsL a b).take k)).contains S with
        | true =>
          have HE2 := Lib.hid (insI_has HFC.out.1 (List.contains_iff_mem.1 hc))
          go_wp2_with fail
          refine (l1Has_any A' n' c' S _ wx HO.out.rd).mono ?_
          rw [hc]
          rintro e wy ⟨rfl, hb⟩
          replace HO := Lib.hid (HO.out.keep hb)
          replace HB := Lib.hid (HB.out.trans (hb.mono HB.out.size))
          clear hb b0 b1 b2 b3 bl
          go_wp2
          go_roundw
          case rel => exact ⟨k + 1, n', c', A', by omega, by go_num, rfl, by rw [HE.out, HE2.out]; exact HO.out, HB.out⟩
          case measure => simp [intOf]; omega
        | false =>
          go_wp2_with fail
          refine (l1Has_any A' n' c' S _ wx HO.out.rd).mono ?_
          rw [hc]
          rintro e wy ⟨rfl, hb⟩
          replace HO := Lib.hid (HO.out.keep hb)
          replace HB := Lib.hid (HB.out.trans (hb.mono HB.out.size))
          clear hb b0 b1 b2 b3 bl
          go_wp2_with fail
          refine (l1Put_any ws.heap.size A' n' c' _ S wy HO.out (by omega) HB.out.size).mono ?_
          rintro e wz ⟨A2, n2, c2, rfl, hown2, hb⟩
          have HO2 := Lib.hid hown2
          replace HB := Lib.hid (HB.out.trans (hb.mono HB.out.size))
          clear hb hown2 HO
          go_wp2
          go_roundw
          case rel => exact ⟨k + 1, n2, c2, A2, by omega, by go_num, rfl, by rw [HE.out]; exact HO2.out, HB.out⟩
          case measure => simp [intOf]; omega
    · have e : k = n1 := by omega
      subst e
      rw [List.take_of_length_le (by have := SLN.out; omega), HLA.out] at hown
      have HO := Lib.hid (hown.lower B.out.size); have HB := Lib.hid (B.out.trans (hbw.mono B.out.size))
      clear hown hbw a0 a1 a2 a3 al
      go_wp2
      go_ret
      exact ⟨A', n', c', rfl, HO.out, HB.out⟩

end Go.Proofs.Ytaliknhfcdmohaa
