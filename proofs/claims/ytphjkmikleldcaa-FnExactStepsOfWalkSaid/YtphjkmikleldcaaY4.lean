/-
  Contracts: StepsOfWalk, in the program.
-/
import Derived.Test.YtphjkmikleldcaaY3
import Derived.Deep.DeepCutAuto
import Derived.Deep.RegionWith
namespace Go.Proofs.Ytphjkmikleldcaa
open Go.RowKit

set_option maxHeartbeats 400000 in
theorem minus_exact (x y u v : Int) (w : World) (hx : -100 ≤ x ∧ x ≤ 100) (hy : -100 ≤ y ∧ y ≤ 100) (hu : -100 ≤ u ∧ u ≤ 100) (hv : -100 ≤ v ∧ v ≤ 100) :
    Calls Try.prog 87 #[lpr x y, lpr u v] w fun e w' => e = .returned (lpr (x - u) (y - v)) ∧ w' = ((w.alloc (.cells #[.int .i64 x, .int .i64 y] 71)).alloc (.cells #[.int .i64 u, .int .i64 v] 71)).alloc (.cells #[.int .i64 (x - u), .int .i64 (y - v)] 71) := by
  obtain ⟨hx1, hx2⟩ := hx
  obtain ⟨hy1, hy2⟩ := hy
  obtain ⟨hu1, hu2⟩ := hu
  obtain ⟨hv1, hv2⟩ := hv
  have hw1 : IntKind.i64.wrap (x - u) = x - u := IntWalk.i64_in _ (by omega)
  have hw2 : IntKind.i64.wrap (y - v) = y - v := IntWalk.i64_in _ (by omega)
  go_enter Try.func87, Try.ntmps87
  go_wp2
  exact bodyPost_ret (v := lpr (x - u) (y - v)) (by simp [results, Try.results87, go_sem]) rfl ⟨rfl, by simp⟩
theorem keepY {w w' : World} {β γ o : Nat} {u0 u1 u2 u3 : Value} (h0 : w.cell? ⟨β, 0, none⟩ = some u0) (h1 : w.cell? ⟨β, 1, none⟩ = some u1) (h2 : w.cell? ⟨β, 2, none⟩ = some u2) (h3 : w.cell? ⟨γ, o, none⟩ = some u3) (hl : β < w.heap.size) (hm : γ < w.heap.size) (hb : Below w.heap.size w w') :
    w'.cell? ⟨β, 0, none⟩ = some u0 ∧ w'.cell? ⟨β, 1, none⟩ = some u1 ∧ w'.cell? ⟨β, 2, none⟩ = some u2 ∧ w'.cell? ⟨γ, o, none⟩ = some u3 := ⟨cell_keep h0 hl hb, cell_keep h1 hl hb, cell_keep h2 hl hb, cell_keep h3 hm hb⟩

set_option maxRecDepth 100000 in
set_option maxHeartbeats 4000000 in
theorem impl_StepsOfWalk (W H : Int) (A : Option Addr) (n c : Nat) (xs : List Int) (a b : Int) (A2 : Option Addr) (m c2 : Nat) (ps : List Int) (w : World) (ha : Rd w A n xs) (hp : Rd w A2 m ps) (hcap : m ≤ c2) :
    Calls Try.prog 50 #[brd W H A n c, lpr a b, .slice A2 m c2] w fun e w' => ∃ A' n' c', e = .returned (.tuple #[.slice A' n' c', .bool (okWk W H xs a b ps)]) ∧ OwnI 3 w' w.heap.size A' n' c' (wstepsV W H xs a b ps) ∧ Below w.heap.size w w' := by
  have HPL := Lib.hid hp.1
  have m9 := hp.2.1
  obtain ⟨W2, hW2⟩ : ∃ W2, W2 = ((w.alloc (.cells #[.int .i64 W, .int .i64 H, .slice A n c] 30)).alloc (.cells #[.int .i64 a, .int .i64 b] 32)).alloc (.cells #[.slice A2 m c2] 22) := ⟨_, rfl⟩
  have a0 : W2.cell? ⟨w.heap.size, 0, none⟩ = some (.int .i64 W) := by rw [hW2]; go_simp
  have a1 : W2.cell? ⟨w.heap.size, 1, none⟩ = some (.int .i64 H) := by rw [hW2]; go_simp
  have a2 : W2.cell? ⟨w.heap.size, 2, none⟩ = some (.slice A n c) := by rw [hW2]; go_simp
  have l0 : W2.cell? ⟨w.heap.size + 1, 0, none⟩ = some (.int .i64 a) := by rw [hW2]; go_simp
  have l1 : W2.cell? ⟨w.heap.size + 1, 1, none⟩ = some (.int .i64 b) := by rw [hW2]; go_simp
  have hsz : W2.heap.size = w.heap.size + 3 := by rw [hW2]; simp
  have al : w.heap.size < W2.heap.size := by omega
  have ll : w.heap.size + 1 < W2.heap.size := by omega
  have B := Lib.hid (show Below w.heap.size w W2 by rw [hW2]; exact (((Below.refl _ _).alloc (Nat.le_refl _) _).alloc (by simp) _).alloc (by simp; omega) _)
  have R := Lib.hid (ha.keep B.out); have RP := Lib.hid (hp.keep B.out)
  have WA := Lib.hid (show WalksAt W2 (w.heap.size + 1 + 1) [ps] from ⟨by omega, fun i l hi => by
    rcases i with _ | i
    · injection hi with hi; subst hi; exact ⟨A2, m, c2, by rw [hW2]; go_simp, hp.keep B.out⟩
    · simp at hi⟩)
  clear ha hp hsz
  cases hq : okWk W H xs a b ps with
  | true =>
    have HQ := Lib.hid hq
    clear hq
    go_enter Try.func50, Try.ntmps50
    go_wp2_with fail
    rw [← hW2]
    clear hW2
    refine (areWalks_any W H A n c xs a b _ 1 [ps] _ R.out WA.out rfl (by decide)).mono ?_
    rw [wks_one, show (twoV W H xs a b && walkB W H xs a b ps) = true from HQ.out]
    rintro e wv ⟨rfl, hb⟩
    replace a0 := cell_keep a0 al hb; replace a1 := cell_keep a1 al hb; replace a2 := cell_keep a2 al hb; replace al := lt_keep al hb
    replace l0 := cell_keep l0 ll hb; replace l1 := cell_keep l1 ll hb; replace ll := lt_keep ll hb
    replace R := Lib.hid (R.out.keep hb); replace RP := Lib.hid (RP.out.keep hb)
    replace B := Lib.hid (below_next B.out hb)
    clear hb
    clear WA
    have hml := ok_len HQ.out
    rw [HPL.out] at hml
    obtain ⟨hm1, hm2⟩ := hml
    have HLP := Lib.hid (ok_leaper HQ.out)
    obtain ⟨i0, hi, hz0, hz1, hz2⟩ := info_parts infoI
    have HI := Lib.hid hi; have HZ0 := Lib.hid hz0; have HZ1 := Lib.hid hz1; have HZ2 := Lib.hid hz2
    have hWW := ok_W HQ.out; have hHH := okH HQ.out
    have HWW := Lib.hid hWW; have HHH := Lib.hid hHH
    have HIN := Lib.hid (okIn HQ.out)
    have HNN := Lib.hid (cells_le hWW hHH)
    have HCAP := Lib.hid hcap
    clear hi hz0 hz1 hz2 hWW hHH R
    go_wp2_with fail
    refine (stepsOf_any a b _ HLP.out).mono ?_
    rintro e w3 ⟨A1, n1, c1, rfl, hst, hb⟩
    replace a0 := cell_keep a0 al hb; replace a1 := cell_keep a1 al hb; replace a2 := cell_keep a2 al hb; replace al := lt_keep al hb
    replace RP := Lib.hid (RP.out.keep hb)
    replace B := Lib.hid (below_next B.out hb)
    have ST := Lib.hid (show OwnP 71 w3 _ A1 n1 c1 (stepsL a b) from hst)
    have n8 : n1 ≤ 8 := by have := stepsL_len HLP.out; have := hst.len; omega
    have AL := Lib.hid al
    have HA := Lib.hid (⟨a0, a1, a2⟩ : w3.cell? ⟨w.heap.size, 0, none⟩ = some (.int .i64 W) ∧ w3.cell? ⟨w.heap.size, 1, none⟩ = some (.int .i64 H) ∧ w3.cell? ⟨w.heap.size, 2, none⟩ = some (.slice A n c))
    obtain ⟨bb, oo, x9, rfl, -, -, -⟩ := RP.out.at_ (k := 0) (by omega)
    have hm1i : (1 : Int) ≤ (m : Int) := by omega
    have hmci : (m : Int) ≤ (c2 : Int) := by have := HCAP.out; omega
    have hc1i : (1 : Int) ≤ (c2 : Int) := by omega
    clear hst hb a0 a1 a2 l0 l1 al ll
    by_cases hc1 : c2 = 1
    · have hm9' : m = 1 := by have := HCAP.out; omega
      go_wp2
      go_loopw [9, 24] (fun v i wr => ∃ (k n' c' : Nat) (A' : Option Addr), k ≤ m - 1 ∧ i = .int .i64 k ∧ v = .slice A' n' c' ∧ OwnI 3 wr w3.heap.size A' n' c' (stepIs W a b ps k) ∧ Below w3.heap.size w3 wr) (fun _ i _ => m - (intOf i).toNat)
      case atStart => exact ⟨0, 0, 0, none, Nat.zero_le _, rfl, rfl, (by rw [show stepIs W a b ps 0 = [] from rfl]; exact OwnI.none_ _ _ _), Below.refl _ _⟩
      case round =>
        obtain ⟨k, n', c', A', hk, rfl, rfl, hown, hbw⟩ := hrel
        have HNK := Lib.hid (show n' = k by have := hown.len; rw [stepIs_len] at this; omega)
        by_cases hlt : k + 1 < m
        · exact absurd hlt (by omega)
        · have hkm : ps.length - 1 = k := by have := HPL.out; omega
          have HV := Lib.hid (show wstepsV W H xs a b ps = stepIs W a b ps k by rw [wstepsV, if_pos HQ.out, hkm])
          have HO := Lib.hid (hown.lower B.out.size); have HB := Lib.hid hbw
          have hk2 : ¬ (k : Int) < ((m - 1 : Nat) : Int) := by omega
          clear hown hbw hkm
          go_wp2
          go_ret2
          exact ⟨_, _, _, rfl, by rw [HV.out]; exact HO.out, B.out.trans (HB.out.mono B.out.size)⟩
    · go_wp2
      go_loopw [9, 24] (fun v i wr => ∃ (k n' c' : Nat) (A' : Option Addr), k ≤ m - 1 ∧ i = .int .i64 k ∧ v = .slice A' n' c' ∧ OwnI 3 wr w3.heap.size A' n' c' (stepIs W a b ps k) ∧ Below w3.heap.size w3 wr) (fun _ i _ => m - (intOf i).toNat)
      case atStart => exact ⟨0, 0, 0, none, Nat.zero_le _, rfl, rfl, (by rw [show stepIs W a b ps 0 = [] from rfl]; exact OwnI.none_ _ _ _), Below.refl _ _⟩
      case round =>
        obtain ⟨k, n', c', A', hk, rfl, rfl, hown, hbw⟩ := hrel
        have HNK := Lib.hid (show n' = k by have := hown.len; rw [stepIs_len] at this; omega)
        by_cases hlt : k + 1 < m
        · obtain ⟨b1, o1, x, he1, hg1, hx, x0⟩ := RP.out.at_ (k := k) (by omega)
          obtain ⟨b4, o4, y, he4, hg4, hy, y0⟩ := RP.out.at_ (k := k + 1) (by omega)
          injection he1 with he1
          injection he1 with e1 e2 _
          subst e1 e2
          injection he4 with he4
          injection he4 with e1 e2 _
          subst e1 e2
          replace x0 := cell_keep x0 hg1 hbw
          replace y0 := cell_keep y0 hg1 hbw
          rw [show oo + (k + 1) = oo + 1 + k by omega] at y0
          have a0 := cell_keep HA.out.1 AL.out hbw; have a1 := cell_keep HA.out.2.1 AL.out hbw; have a2 := cell_keep HA.out.2.2 AL.out hbw
          have ga := lt_keep AL.out hbw
          have gb := lt_keep hg1 hbw
          have hxr := HIN.out x (List.mem_of_getElem? hx)
          have hyr := HIN.out y (List.mem_of_getElem? hy)
          have hNN := HNN.out
          have hst := ok_step HQ.out hx hy
          have hsi := stepI_at (W := W) (a := a) (b := b) hx hy
          have hc1 := colIn (x := x) HWW.out; have hc2 := colIn (x := y) HWW.out; have hr1 := rowIn HWW.out hxr; have hr2 := rowIn HWW.out hyr
          have hW8 := HWW.out.2; have hH8 := HHH.out.2
          have HX64 := Lib.hid (show 0 ≤ x ∧ x ≤ 64 by omega)
          have HY64 := Lib.hid (show 0 ≤ y ∧ y ≤ 64 by omega)
          have HM1 := Lib.hid (show -100 ≤ y % W ∧ y % W ≤ 100 by omega); have HM2 := Lib.hid (show -100 ≤ y / W ∧ y / W ≤ 100 by omega)
          have HM3 := Lib.hid (show -100 ≤ x % W ∧ x % W ≤ 100 by omega); have HM4 := Lib.hid (show -100 ≤ x / W ∧ x / W ≤ 100 by omega)
          have hk0 : (0 : Int) ≤ (k : Int) := by omega
          have hkm : (k : Int) < (m : Int) := by omega
          have hkm2 : k < m := by omega
          have hkm3 : k < m - 1 := by omega
          have hk2 : (k : Int) < ((m - 1 : Nat) : Int) := by omega
          have HST := Lib.hid hst; have HSI := Lib.hid hsi
          have HO := Lib.hid hown; have HB := Lib.hid hbw
          have hsw := hbw.size
          have HST9 := Lib.hid (ST.out.keep hbw)
          clear hx hy hxr hyr hNN hst hsi hc1 hc2 hr1 hr2 hW8 hH8 hown hbw hg1 hg4
          go_upto_region 8 with fail
          go_cut [12] (fun s12 wx => ∃ gp : Nat, s12 = .pointer (some ⟨gp, 0, none⟩) ∧ SpotAt wx gp (y % W - x % W) (y / W - x / W) ∧ Below wr.heap.size wr wx)
          case first =>
            have AA := Lib.hid (⟨a0, a1, a2, x0⟩ : wr.cell? ⟨w.heap.size, 0, none⟩ = some (.int .i64 W) ∧ wr.cell? ⟨w.heap.size, 1, none⟩ = some (.int .i64 H) ∧ wr.cell? ⟨w.heap.size, 2, none⟩ = some (.slice A n c) ∧ wr.cell? ⟨bb, oo + k, none⟩ = some (.int .i64 x))
            have GA := Lib.hid ga; have GB := Lib.hid gb
            have HBB := Lib.hid (Below.refl wr.heap.size wr)
            refine wp_region_held_drew (S := fun w' => w'.cell? ⟨w.heap.size, 0, none⟩ = some (.int .i64 W) ∧ w'.cell? ⟨w.heap.size, 1, none⟩ = some (.int .i64 H) ∧ w'.cell? ⟨w.heap.size, 2, none⟩ = some (.slice A n c) ∧ w'.cell? ⟨bb, oo + k, none⟩ = some (.int .i64 x)) (by kernel_rfl) ?_ (fun hHeld => ?_)
            · (try dsimp only)
              exact ⟨a0, a1, a2, x0⟩
            refine wpAnyH_take (i := 0) (oi := ⟨_, _, _, _, _, _⟩) (v := ?_) rfl (by kernel_rfl) (by kernel_rfl) (by kernel_rfl) (fun _ _ _ h => h) (Or.inl ⟨by rfl, ?_⟩) (by assumption) ?_
            rotate_left
            · intro w hSw
              (try dsimp only at hSw)
              go_simp
              (try with_reducible rfl)
            (try simp only [Act.put, List.setIfInBounds_toArray, List.set_cons_zero, List.set_cons_succ])
            refine wpAnyH_take (i := 1) (oi := ⟨_, _, _, _, _, _⟩) (v := ?_) rfl (by kernel_rfl) (by kernel_rfl) (by kernel_rfl) (fun _ _ _ h => h) (Or.inl ⟨by rfl, ?_⟩) (by assumption) ?_
            rotate_left
            · intro w hSw
              (try dsimp only at hSw)
              go_simp
              (try with_reducible rfl)
            (try simp only [Act.put, List.setIfInBounds_toArray, List.set_cons_zero, List.set_cons_succ])
            refine wpAnyH_take (i := 3) (oi := ⟨_, _, _, _, _, _⟩) (v := ?_) rfl (by kernel_rfl) (by kernel_rfl) (by kernel_rfl) (fun _ _ _ h => h) (Or.inl ⟨by rfl, ?_⟩) (by assumption) ?_
            rotate_left
            · intro w hSw
              (try dsimp only at hSw)
              go_simp
              (try with_reducible rfl)
            (try simp only [Act.put, List.setIfInBounds_toArray, List.set_cons_zero, List.set_cons_succ])
            refine wpAnyH_take (i := 4) (oi := ⟨_, _, _, _, _, _⟩) (v := ?_) rfl (by kernel_rfl) (by kernel_rfl) (by kernel_rfl) (fun _ _ _ h => h) (Or.inl ⟨by rfl, ?_⟩) (by assumption) ?_
            rotate_left
            · intro w hSw
              (try dsimp only at hSw)
              go_simp
              (try with_reducible rfl)
            (try simp only [Act.put, List.setIfInBounds_toArray, List.set_cons_zero, List.set_cons_succ])
            refine wpAnyH_take (i := 5) (oi := ⟨_, _, _, _, _, _⟩) (v := ?_) rfl (by kernel_rfl) (by kernel_rfl) (by kernel_rfl) (fun _ _ _ h => h) (Or.inl ⟨by rfl, ?_⟩) (by assumption) ?_
            rotate_left
            · intro w hSw
              (try dsimp only at hSw)
              go_simp
              (try with_reducible rfl)
            (try simp only [Act.put, List.setIfInBounds_toArray, List.set_cons_zero, List.set_cons_succ])
            refine wpAnyH_take (i := 6) (oi := ⟨_, _, _, _, _, _⟩) (v := ?_) rfl (by kernel_rfl) (by kernel_rfl) (by kernel_rfl) (fun _ _ _ h => h) (Or.inl ⟨by rfl, ?_⟩) (by assumption) ?_
            rotate_left
            · intro w hSw
              (try dsimp only at hSw)
              go_simp
              (try with_reducible rfl)
            (try simp only [Act.put, List.setIfInBounds_toArray, List.set_cons_zero, List.set_cons_succ])
            refine wpAnyH_take (i := 7) (oi := ⟨_, _, _, _, _, _⟩) (v := ?_) rfl (by kernel_rfl) (by kernel_rfl) (by kernel_rfl) (fun _ _ _ h => h) (Or.inl ⟨by rfl, ?_⟩) (by assumption) ?_
            rotate_left
            · intro w hSw
              (try dsimp only at hSw)
              go_simp
              (try with_reducible rfl)
            (try simp only [Act.put, List.setIfInBounds_toArray, List.set_cons_zero, List.set_cons_succ])
            refine wpAnyH_ready (rs := [2, 10]) (by kernel_rfl) (by simp) ?_
            refine AllReadyH.cons (o := ⟨_, _, _, _, _, _⟩) rfl (fun K hK => ?_) (AllReadyH.cons (o := ⟨_, _, _, _, _, _⟩) rfl (fun K hK => ?_) AllReadyH.nil)
            · go_simp
              (go_at_call 83; refine (spotOf_any W H A n c y _ ?_ ?_).mono ?_; (exact HWW.out); (exact HY64.out); rintro e wv2 ⟨rfl, hb⟩; (repeat (first | replace hb := below_undrew hb | replace hb := below_undrewN hb)); replace a0 := cell_keep a0 ga hb; replace a1 := cell_keep a1 ga hb; replace a2 := cell_keep a2 ga hb; replace x0 := cell_keep x0 gb hb; replace ga := lt_keep ga hb; replace gb := lt_keep gb hb; replace HBB := Lib.hid (below_next HBB.out hb); clear hb)
              (try go_wp2_with fail)
              refine hK.out _ _ ?_ (fun hHeld => ?_)
              · (try dsimp only)
                exact ⟨a0, a1, a2, x0⟩
              clear hK K
              (try simp only [Act.put, List.setIfInBounds_toArray, List.set_cons_zero, List.set_cons_succ])
              refine wpAnyH_ready (rs := [8, 10]) (by kernel_rfl) (by simp) ?_
              refine AllReadyH.cons (o := ⟨_, _, _, _, _, _⟩) rfl (fun K hK => ?_) (AllReadyH.cons (o := ⟨_, _, _, _, _, _⟩) rfl (fun K hK => ?_) AllReadyH.nil)
              · go_simp
                (go_at_call 83; refine (spotOf_any W H A n c x _ ?_ ?_).mono ?_; (exact HWW.out); (exact HX64.out); rintro e wv8 ⟨rfl, hb⟩; (repeat (first | replace hb := below_undrew hb | replace hb := below_undrewN hb)); replace a0 := cell_keep a0 ga hb; replace a1 := cell_keep a1 ga hb; replace a2 := cell_keep a2 ga hb; replace x0 := cell_keep x0 gb hb; replace ga := lt_keep ga hb; replace gb := lt_keep gb hb; replace HBB := Lib.hid (below_next HBB.out hb); clear hb)
                (try go_wp2_with fail)
                refine hK.out _ _ ?_ (fun hHeld => ?_)
                · (try dsimp only)
                  exact ⟨a0, a1, a2, x0⟩
                clear hK K
                (try simp only [Act.put, List.setIfInBounds_toArray, List.set_cons_zero, List.set_cons_succ])
                refine wpAnyH_ready (rs := [9, 10]) (by kernel_rfl) (by simp) ?_
                refine AllReadyH.cons (o := ⟨_, _, _, _, _, _⟩) rfl (fun K hK => ?_) (AllReadyH.cons (o := ⟨_, _, _, _, _, _⟩) rfl (fun K hK => ?_) AllReadyH.nil)
                · go_simp
                  (go_at_call 87; refine (minus_any (y % W) (y / W) (x % W) (x / W) _ ?_ ?_ ?_ ?_).mono ?_; (exact HM1.out); (exact HM2.out); (exact HM3.out); (exact HM4.out); rintro e wv9 ⟨rfl, hb⟩; (repeat (first | replace hb := below_undrew hb | replace hb := below_undrewN hb)); replace a0 := cell_keep a0 ga hb; replace a1 := cell_keep a1 ga hb; replace a2 := cell_keep a2 ga hb; replace x0 := cell_keep x0 gb hb; replace ga := lt_keep ga hb; replace gb := lt_keep gb hb; replace HBB := Lib.hid (below_next HBB.out hb); clear hb)
                  (try go_wp2_with fail)
                  refine hK.out _ _ ?_ (fun hHeld => ?_)
                  · (try dsimp only)
                    exact ⟨a0, a1, a2, x0⟩
                  clear hK K
                  (try simp only [Act.put, List.setIfInBounds_toArray, List.set_cons_zero, List.set_cons_succ])
                  refine wpAnyH_ready (rs := [10]) (by kernel_rfl) (by simp) ?_
                  refine AllReadyH.cons (o := ⟨_, _, _, _, _, _⟩) rfl (fun K hK => ?_) AllReadyH.nil
                  go_simp
                  obtain ⟨W5, hW5⟩ : ∃ W5, W5 = wv9.alloc (.cells #[.int .i64 0, .int .i64 0] 71) := ⟨_, rfl⟩
                  have hb : Below wv9.heap.size wv9 W5 := by rw [hW5]; exact below_new (Below.refl _ _) _
                  obtain ⟨gp, hgp⟩ : ∃ gp, gp = wv9.heap.size := ⟨_, rfl⟩
                  have p0 : W5.cell? ⟨gp, 0, none⟩ = some (.int .i64 0) := by rw [hW5, hgp]; go_simp
                  have p1 : W5.cell? ⟨gp, 1, none⟩ = some (.int .i64 0) := by rw [hW5, hgp]; go_simp
                  have f0 : W5.frozen? ⟨gp, 0, none⟩ = false := by rw [hW5, hgp]; go_simp
                  have f1 : W5.frozen? ⟨gp, 1, none⟩ = false := by rw [hW5, hgp]; go_simp
                  have pl : gp < W5.heap.size := by rw [hW5, hgp]; simp
                  have HGP := Lib.hid (show wr.heap.size ≤ gp by rw [hgp]; exact HBB.out.size)
                  rw [← hW5]
                  (try rw [← hgp])
                  clear hW5 hgp
                  replace a0 := cell_keep a0 ga hb; replace a1 := cell_keep a1 ga hb; replace a2 := cell_keep a2 ga hb; replace x0 := cell_keep x0 gb hb; replace ga := lt_keep ga hb; replace gb := lt_keep gb hb; replace HBB := Lib.hid (below_next HBB.out hb); clear hb
                  refine hK.out _ _ ?_ (fun hHeld => ?_)
                  · (try dsimp only)
                    exact ⟨a0, a1, a2, x0⟩
                  clear hK K
                  (try simp only [Act.put, List.setIfInBounds_toArray, List.set_cons_zero, List.set_cons_succ])
                  refine wpAnyH_ready (rs := [11]) (by kernel_rfl) (by simp) ?_
                  refine AllReadyH.cons (o := ⟨_, _, _, _, _, _⟩) rfl (fun K hK => ?_) AllReadyH.nil
                  go_simp
                  obtain ⟨W6, hW6⟩ : ∃ W6, W6 = (W5.setCell ⟨gp, 0, none⟩ (.int .i64 (y % W - x % W))).setCell ⟨gp, 1, none⟩ (.int .i64 (y / W - x / W)) := ⟨_, rfl⟩
                  have q0 : W6.cell? ⟨gp, 0, none⟩ = some (.int .i64 (y % W - x % W)) := by rw [hW6]; simp [go_sem, p0]
                  have q1 : W6.cell? ⟨gp, 1, none⟩ = some (.int .i64 (y / W - x / W)) := by rw [hW6]; simp [go_sem, p1]
                  have hb6 : Below wr.heap.size wr W6 := by rw [hW6]; exact Below.setCell (Below.setCell HBB.out HGP.out _) HGP.out _
                  have ql : gp < W6.heap.size := by rw [hW6]; simpa using pl
                  rw [← hW6]
                  clear hW6 a0 a1 a2 x0
                  refine hK.out _ _ ?_ (fun hHeld => ?_)
                  · (try dsimp only)
                    exact ⟨cell_keep AA.out.1 GA.out hb6, cell_keep AA.out.2.1 GA.out hb6, cell_keep AA.out.2.2.1 GA.out hb6, cell_keep AA.out.2.2.2 GB.out hb6⟩
                  clear hK K
                  (try simp only [Act.put, List.setIfInBounds_toArray, List.set_cons_zero, List.set_cons_succ])
                  refine wpAnyH_done (by kernel_rfl) ?_ _
                  (go_wp2_with fail)
                  go_meet
                  first | exact ⟨_, rfl, ⟨q0, q1, ql⟩, hb6⟩ | exact ⟨_, rfl, ⟨q0, q1, ql⟩, below_drewN hb6 _⟩
                · go_simp
                  obtain ⟨W5, hW5⟩ : ∃ W5, W5 = wv8.alloc (.cells #[.int .i64 0, .int .i64 0] 71) := ⟨_, rfl⟩
                  have hb : Below wv8.heap.size wv8 W5 := by rw [hW5]; exact below_new (Below.refl _ _) _
                  obtain ⟨gp, hgp⟩ : ∃ gp, gp = wv8.heap.size := ⟨_, rfl⟩
                  have p0 : W5.cell? ⟨gp, 0, none⟩ = some (.int .i64 0) := by rw [hW5, hgp]; go_simp
                  have p1 : W5.cell? ⟨gp, 1, none⟩ = some (.int .i64 0) := by rw [hW5, hgp]; go_simp
                  have f0 : W5.frozen? ⟨gp, 0, none⟩ = false := by rw [hW5, hgp]; go_simp
                  have f1 : W5.frozen? ⟨gp, 1, none⟩ = false := by rw [hW5, hgp]; go_simp
                  have pl : gp < W5.heap.size := by rw [hW5, hgp]; simp
                  have HGP := Lib.hid (show wr.heap.size ≤ gp by rw [hgp]; exact HBB.out.size)
                  rw [← hW5]
                  (try rw [← hgp])
                  clear hW5 hgp
                  replace a0 := cell_keep a0 ga hb; replace a1 := cell_keep a1 ga hb; replace a2 := cell_keep a2 ga hb; replace x0 := cell_keep x0 gb hb; replace ga := lt_keep ga hb; replace gb := lt_keep gb hb; replace HBB := Lib.hid (below_next HBB.out hb); clear hb
                  refine hK.out _ _ ?_ (fun hHeld => ?_)
                  · (try dsimp only)
                    exact ⟨a0, a1, a2, x0⟩
                  clear hK K
                  (try simp only [Act.put, List.setIfInBounds_toArray, List.set_cons_zero, List.set_cons_succ])
                  refine wpAnyH_ready (rs := [9]) (by kernel_rfl) (by simp) ?_
                  refine AllReadyH.cons (o := ⟨_, _, _, _, _, _⟩) rfl (fun K hK => ?_) AllReadyH.nil
                  go_simp
                  (go_at_call 87; refine (minus_any (y % W) (y / W) (x % W) (x / W) _ ?_ ?_ ?_ ?_).mono ?_; (exact HM1.out); (exact HM2.out); (exact HM3.out); (exact HM4.out); rintro e wv9 ⟨rfl, hb⟩; (repeat (first | replace hb := below_undrew hb | replace hb := below_undrewN hb)); replace a0 := cell_keep a0 ga hb; replace a1 := cell_keep a1 ga hb; replace a2 := cell_keep a2 ga hb; replace x0 := cell_keep x0 gb hb; replace ga := lt_keep ga hb; replace gb := lt_keep gb hb; replace HBB := Lib.hid (below_next HBB.out hb); replace p0 := cell_keep p0 pl hb; replace p1 := cell_keep p1 pl hb; replace f0 := ((bcell hb).2 _ 0 pl).trans f0; replace f1 := ((bcell hb).2 _ 1 pl).trans f1; replace pl := lt_keep pl hb; clear hb)
                  (try go_wp2_with fail)
                  refine hK.out _ _ ?_ (fun hHeld => ?_)
                  · (try dsimp only)
                    exact ⟨a0, a1, a2, x0⟩
                  clear hK K
                  (try simp only [Act.put, List.setIfInBounds_toArray, List.set_cons_zero, List.set_cons_succ])
                  refine wpAnyH_ready (rs := [11]) (by kernel_rfl) (by simp) ?_
                  refine AllReadyH.cons (o := ⟨_, _, _, _, _, _⟩) rfl (fun K hK => ?_) AllReadyH.nil
                  go_simp
                  obtain ⟨W6, hW6⟩ : ∃ W6, W6 = (wv9.setCell ⟨gp, 0, none⟩ (.int .i64 (y % W - x % W))).setCell ⟨gp, 1, none⟩ (.int .i64 (y / W - x / W)) := ⟨_, rfl⟩
                  have q0 : W6.cell? ⟨gp, 0, none⟩ = some (.int .i64 (y % W - x % W)) := by rw [hW6]; simp [go_sem, p0]
                  have q1 : W6.cell? ⟨gp, 1, none⟩ = some (.int .i64 (y / W - x / W)) := by rw [hW6]; simp [go_sem, p1]
                  have hb6 : Below wr.heap.size wr W6 := by rw [hW6]; exact Below.setCell (Below.setCell HBB.out HGP.out _) HGP.out _
                  have ql : gp < W6.heap.size := by rw [hW6]; simpa using pl
                  rw [← hW6]
                  clear hW6 a0 a1 a2 x0
                  refine hK.out _ _ ?_ (fun hHeld => ?_)
                  · (try dsimp only)
                    exact ⟨cell_keep AA.out.1 GA.out hb6, cell_keep AA.out.2.1 GA.out hb6, cell_keep AA.out.2.2.1 GA.out hb6, cell_keep AA.out.2.2.2 GB.out hb6⟩
                  clear hK K
                  (try simp only [Act.put, List.setIfInBounds_toArray, List.set_cons_zero, List.set_cons_succ])
                  refine wpAnyH_done (by kernel_rfl) ?_ _
                  (go_wp2_with fail)
                  go_meet
                  first | exact ⟨_, rfl, ⟨q0, q1, ql⟩, hb6⟩ | exact ⟨_, rfl, ⟨q0, q1, ql⟩, below_drewN hb6 _⟩
              · go_simp
                obtain ⟨W5, hW5⟩ : ∃ W5, W5 = wv2.alloc (.cells #[.int .i64 0, .int .i64 0] 71) := ⟨_, rfl⟩
                have hb : Below wv2.heap.size wv2 W5 := by rw [hW5]; exact below_new (Below.refl _ _) _
                obtain ⟨gp, hgp⟩ : ∃ gp, gp = wv2.heap.size := ⟨_, rfl⟩
                have p0 : W5.cell? ⟨gp, 0, none⟩ = some (.int .i64 0) := by rw [hW5, hgp]; go_simp
                have p1 : W5.cell? ⟨gp, 1, none⟩ = some (.int .i64 0) := by rw [hW5, hgp]; go_simp
                have f0 : W5.frozen? ⟨gp, 0, none⟩ = false := by rw [hW5, hgp]; go_simp
                have f1 : W5.frozen? ⟨gp, 1, none⟩ = false := by rw [hW5, hgp]; go_simp
                have pl : gp < W5.heap.size := by rw [hW5, hgp]; simp
                have HGP := Lib.hid (show wr.heap.size ≤ gp by rw [hgp]; exact HBB.out.size)
                rw [← hW5]
                (try rw [← hgp])
                clear hW5 hgp
                replace a0 := cell_keep a0 ga hb; replace a1 := cell_keep a1 ga hb; replace a2 := cell_keep a2 ga hb; replace x0 := cell_keep x0 gb hb; replace ga := lt_keep ga hb; replace gb := lt_keep gb hb; replace HBB := Lib.hid (below_next HBB.out hb); clear hb
                refine hK.out _ _ ?_ (fun hHeld => ?_)
                · (try dsimp only)
                  exact ⟨a0, a1, a2, x0⟩
                clear hK K
                (try simp only [Act.put, List.setIfInBounds_toArray, List.set_cons_zero, List.set_cons_succ])
                refine wpAnyH_ready (rs := [8]) (by kernel_rfl) (by simp) ?_
                refine AllReadyH.cons (o := ⟨_, _, _, _, _, _⟩) rfl (fun K hK => ?_) AllReadyH.nil
                go_simp
                (go_at_call 83; refine (spotOf_any W H A n c x _ ?_ ?_).mono ?_; (exact HWW.out); (exact HX64.out); rintro e wv8 ⟨rfl, hb⟩; (repeat (first | replace hb := below_undrew hb | replace hb := below_undrewN hb)); replace a0 := cell_keep a0 ga hb; replace a1 := cell_keep a1 ga hb; replace a2 := cell_keep a2 ga hb; replace x0 := cell_keep x0 gb hb; replace ga := lt_keep ga hb; replace gb := lt_keep gb hb; replace HBB := Lib.hid (below_next HBB.out hb); replace p0 := cell_keep p0 pl hb; replace p1 := cell_keep p1 pl hb; replace f0 := ((bcell hb).2 _ 0 pl).trans f0; replace f1 := ((bcell hb).2 _ 1 pl).trans f1; replace pl := lt_keep pl hb; clear hb)
                (try go_wp2_with fail)
                refine hK.out _ _ ?_ (fun hHeld => ?_)
                · (try dsimp only)
                  exact ⟨a0, a1, a2, x0⟩
                clear hK K
                (try simp only [Act.put, List.setIfInBounds_toArray, List.set_cons_zero, List.set_cons_succ])
                refine wpAnyH_ready (rs := [9]) (by kernel_rfl) (by simp) ?_
                refine AllReadyH.cons (o := ⟨_, _, _, _, _, _⟩) rfl (fun K hK => ?_) AllReadyH.nil
                go_simp
                (go_at_call 87; refine (minus_any (y % W) (y / W) (x % W) (x / W) _ ?_ ?_ ?_ ?_).mono ?_; (exact HM1.out); (exact HM2.out); (exact HM3.out); (exact HM4.out); rintro e wv9 ⟨rfl, hb⟩; (repeat (first | replace hb := below_undrew hb | replace hb := below_undrewN hb)); replace a0 := cell_keep a0 ga hb; replace a1 := cell_keep a1 ga hb; replace a2 := cell_keep a2 ga hb; replace x0 := cell_keep x0 gb hb; replace ga := lt_keep ga hb; replace gb := lt_keep gb hb; replace HBB := Lib.hid (below_next HBB.out hb); replace p0 := cell_keep p0 pl hb; replace p1 := cell_keep p1 pl hb; replace f0 := ((bcell hb).2 _ 0 pl).trans f0; replace f1 := ((bcell hb).2 _ 1 pl).trans f1; replace pl := lt_keep pl hb; clear hb)
                (try go_wp2_with fail)
                refine hK.out _ _ ?_ (fun hHeld => ?_)
                · (try dsimp only)
                  exact ⟨a0, a1, a2, x0⟩
                clear hK K
                (try simp only [Act.put, List.setIfInBounds_toArray, List.set_cons_zero, List.set_cons_succ])
                refine wpAnyH_ready (rs := [11]) (by kernel_rfl) (by simp) ?_
                refine AllReadyH.cons (o := ⟨_, _, _, _, _, _⟩) rfl (fun K hK => ?_) AllReadyH.nil
                go_simp
                obtain ⟨W6, hW6⟩ : ∃ W6, W6 = (wv9.setCell ⟨gp, 0, none⟩ (.int .i64 (y % W - x % W))).setCell ⟨gp, 1, none⟩ (.int .i64 (y / W - x / W)) := ⟨_, rfl⟩
                have q0 : W6.cell? ⟨gp, 0, none⟩ = some (.int .i64 (y % W - x % W)) := by rw [hW6]; simp [go_sem, p0]
                have q1 : W6.cell? ⟨gp, 1, none⟩ = some (.int .i64 (y / W - x / W)) := by rw [hW6]; simp [go_sem, p1]
                have hb6 : Below wr.heap.size wr W6 := by rw [hW6]; exact Below.setCell (Below.setCell HBB.out HGP.out _) HGP.out _
                have ql : gp < W6.heap.size := by rw [hW6]; simpa using pl
                rw [← hW6]
                clear hW6 a0 a1 a2 x0
                refine hK.out _ _ ?_ (fun hHeld => ?_)
                · (try dsimp only)
                  exact ⟨cell_keep AA.out.1 GA.out hb6, cell_keep AA.out.2.1 GA.out hb6, cell_keep AA.out.2.2.1 GA.out hb6, cell_keep AA.out.2.2.2 GB.out hb6⟩
                clear hK K
                (try simp only [Act.put, List.setIfInBounds_toArray, List.set_cons_zero, List.set_cons_succ])
                refine wpAnyH_done (by kernel_rfl) ?_ _
                (go_wp2_with fail)
                go_meet
                first | exact ⟨_, rfl, ⟨q0, q1, ql⟩, hb6⟩ | exact ⟨_, rfl, ⟨q0, q1, ql⟩, below_drewN hb6 _⟩
            · go_simp
              obtain ⟨W5, hW5⟩ : ∃ W5, W5 = wr.alloc (.cells #[.int .i64 0, .int .i64 0] 71) := ⟨_, rfl⟩
              have hb : Below wr.heap.size wr W5 := by rw [hW5]; exact below_new (Below.refl _ _) _
              obtain ⟨gp, hgp⟩ : ∃ gp, gp = wr.heap.size := ⟨_, rfl⟩
              have p0 : W5.cell? ⟨gp, 0, none⟩ = some (.int .i64 0) := by rw [hW5, hgp]; go_simp
              have p1 : W5.cell? ⟨gp, 1, none⟩ = some (.int .i64 0) := by rw [hW5, hgp]; go_simp
              have f0 : W5.frozen? ⟨gp, 0, none⟩ = false := by rw [hW5, hgp]; go_simp
              have f1 : W5.frozen? ⟨gp, 1, none⟩ = false := by rw [hW5, hgp]; go_simp
              have pl : gp < W5.heap.size := by rw [hW5, hgp]; simp
              have HGP := Lib.hid (show wr.heap.size ≤ gp by rw [hgp]; exact HBB.out.size)
              rw [← hW5]
              (try rw [← hgp])
              clear hW5 hgp
              replace a0 := cell_keep a0 ga hb; replace a1 := cell_keep a1 ga hb; replace a2 := cell_keep a2 ga hb; replace x0 := cell_keep x0 gb hb; replace ga := lt_keep ga hb; replace gb := lt_keep gb hb; replace HBB := Lib.hid (below_next HBB.out hb); clear hb
              refine hK.out _ _ ?_ (fun hHeld => ?_)
              · (try dsimp only)
                exact ⟨a0, a1, a2, x0⟩
              clear hK K
              (try simp only [Act.put, List.setIfInBounds_toArray, List.set_cons_zero, List.set_cons_succ])
              refine wpAnyH_ready (rs := [2]) (by kernel_rfl) (by simp) ?_
              refine AllReadyH.cons (o := ⟨_, _, _, _, _, _⟩) rfl (fun K hK => ?_) AllReadyH.nil
              go_simp
              (go_at_call 83; refine (spotOf_any W H A n c y _ ?_ ?_).mono ?_; (exact HWW.out); (exact HY64.out); rintro e wv2 ⟨rfl, hb⟩; (repeat (first | replace hb := below_undrew hb | replace hb := below_undrewN hb)); replace a0 := cell_keep a0 ga hb; replace a1 := cell_keep a1 ga hb; replace a2 := cell_keep a2 ga hb; replace x0 := cell_keep x0 gb hb; replace ga := lt_keep ga hb; replace gb := lt_keep gb hb; replace HBB := Lib.hid (below_next HBB.out hb); replace p0 := cell_keep p0 pl hb; replace p1 := cell_keep p1 pl hb; replace f0 := ((bcell hb).2 _ 0 pl).trans f0; replace f1 := ((bcell hb).2 _ 1 pl).trans f1; replace pl := lt_keep pl hb; clear hb)
              (try go_wp2_with fail)
              refine hK.out _ _ ?_ (fun hHeld => ?_)
              · (try dsimp only)
                exact ⟨a0, a1, a2, x0⟩
              clear hK K
              (try simp only [Act.put, List.setIfInBounds_toArray, List.set_cons_zero, List.set_cons_succ])
              refine wpAnyH_ready (rs := [8]) (by kernel_rfl) (by simp) ?_
              refine AllReadyH.cons (o := ⟨_, _, _, _, _, _⟩) rfl (fun K hK => ?_) AllReadyH.nil
              go_simp
              (go_at_call 83; refine (spotOf_any W H A n c x _ ?_ ?_).mono ?_; (exact HWW.out); (exact HX64.out); rintro e wv8 ⟨rfl, hb⟩; (repeat (first | replace hb := below_undrew hb | replace hb := below_undrewN hb)); replace a0 := cell_keep a0 ga hb; replace a1 := cell_keep a1 ga hb; replace a2 := cell_keep a2 ga hb; replace x0 := cell_keep x0 gb hb; replace ga := lt_keep ga hb; replace gb := lt_keep gb hb; replace HBB := Lib.hid (below_next HBB.out hb); replace p0 := cell_keep p0 pl hb; replace p1 := cell_keep p1 pl hb; replace f0 := ((bcell hb).2 _ 0 pl).trans f0; replace f1 := ((bcell hb).2 _ 1 pl).trans f1; replace pl := lt_keep pl hb; clear hb)
              (try go_wp2_with fail)
              refine hK.out _ _ ?_ (fun hHeld => ?_)
              · (try dsimp only)
                exact ⟨a0, a1, a2, x0⟩
              clear hK K
              (try simp only [Act.put, List.setIfInBounds_toArray, List.set_cons_zero, List.set_cons_succ])
              refine wpAnyH_ready (rs := [9]) (by kernel_rfl) (by simp) ?_
              refine AllReadyH.cons (o := ⟨_, _, _, _, _, _⟩) rfl (fun K hK => ?_) AllReadyH.nil
              go_simp
              (go_at_call 87; refine (minus_any (y % W) (y / W) (x % W) (x / W) _ ?_ ?_ ?_ ?_).mono ?_; (exact HM1.out); (exact HM2.out); (exact HM3.out); (exact HM4.out); rintro e wv9 ⟨rfl, hb⟩; (repeat (first | replace hb := below_undrew hb | replace hb := below_undrewN hb)); replace a0 := cell_keep a0 ga hb; replace a1 := cell_keep a1 ga hb; replace a2 := cell_keep a2 ga hb; replace x0 := cell_keep x0 gb hb; replace ga := lt_keep ga hb; replace gb := lt_keep gb hb; replace HBB := Lib.hid (below_next HBB.out hb); replace p0 := cell_keep p0 pl hb; replace p1 := cell_keep p1 pl hb; replace f0 := ((bcell hb).2 _ 0 pl).trans f0; replace f1 := ((bcell hb).2 _ 1 pl).trans f1; replace pl := lt_keep pl hb; clear hb)
              (try go_wp2_with fail)
              refine hK.out _ _ ?_ (fun hHeld => ?_)
              · (try dsimp only)
                exact ⟨a0, a1, a2, x0⟩
              clear hK K
              (try simp only [Act.put, List.setIfInBounds_toArray, List.set_cons_zero, List.set_cons_succ])
              refine wpAnyH_ready (rs := [11]) (by kernel_rfl) (by simp) ?_
              refine AllReadyH.cons (o := ⟨_, _, _, _, _, _⟩) rfl (fun K hK => ?_) AllReadyH.nil
              go_simp
              obtain ⟨W6, hW6⟩ : ∃ W6, W6 = (wv9.setCell ⟨gp, 0, none⟩ (.int .i64 (y % W - x % W))).setCell ⟨gp, 1, none⟩ (.int .i64 (y / W - x / W)) := ⟨_, rfl⟩
              have q0 : W6.cell? ⟨gp, 0, none⟩ = some (.int .i64 (y % W - x % W)) := by rw [hW6]; simp [go_sem, p0]
              have q1 : W6.cell? ⟨gp, 1, none⟩ = some (.int .i64 (y / W - x / W)) := by rw [hW6]; simp [go_sem, p1]
              have hb6 : Below wr.heap.size wr W6 := by rw [hW6]; exact Below.setCell (Below.setCell HBB.out HGP.out _) HGP.out _
              have ql : gp < W6.heap.size := by rw [hW6]; simpa using pl
              rw [← hW6]
              clear hW6 a0 a1 a2 x0
              refine hK.out _ _ ?_ (fun hHeld => ?_)
              · (try dsimp only)
                exact ⟨cell_keep AA.out.1 GA.out hb6, cell_keep AA.out.2.1 GA.out hb6, cell_keep AA.out.2.2.1 GA.out hb6, cell_keep AA.out.2.2.2 GB.out hb6⟩
              clear hK K
              (try simp only [Act.put, List.setIfInBounds_toArray, List.set_cons_zero, List.set_cons_succ])
              refine wpAnyH_done (by kernel_rfl) ?_ _
              (go_wp2_with fail)
              go_meet
              first | exact ⟨_, rfl, ⟨q0, q1, ql⟩, hb6⟩ | exact ⟨_, rfl, ⟨q0, q1, ql⟩, below_drewN hb6 _⟩
          case rest =>
            obtain ⟨gp, rfl, ⟨s0, s1, gl⟩, hbx⟩ := hcut
            replace HST9 := Lib.hid (HST9.out.keep hbx)
            replace HO := Lib.hid (HO.out.keep hbx)
            replace HB := Lib.hid (HB.out.trans (hbx.mono hsw))
            replace hsw := Nat.le_trans hsw hbx.size
            have HSJ := Lib.hid (show ((stepsL a b).idxOf (y % W - x % W, y / W - x / W) : Int) = stepI W a b ps k from HSI.out.symm)
            have hI := fun w' (hr : OwnP 71 w' wv.heap.size A1 n1 c1 (stepsL a b)) => indexP_any _ A1 n1 c1 (stepsL a b) (y % W - x % W) (y / W - x / W) w' hr (by omega) HST.out
            have HIX := Lib.hid hI
            have hn9 : n' ≤ 1000000 := by have := HNK.out; omega
            have hwk : IntKind.i64.wrap ((k : Int) + 1) = (k : Int) + 1 := IntWalk.i64_in _ (by omega)
            clear hbx a0 a1 a2 x0 y0 ga gb hI
            go_wp2_with fail
            refine (HIX.out _ (by first | exact HST9.out.lower (Nat.le_refl _) | exact HST9.out)).mono ?_
            rw [HSJ.out]
            rintro e wz ⟨rfl, hb⟩
            replace HO := Lib.hid (HO.out.keep hb)
            replace HB := Lib.hid (HB.out.trans (hb.mono hsw))
            replace hsw := Nat.le_trans hsw hb.size
            clear hb s0 s1 gl
            go_wp2_with (at_builtin; refine wpList_app1 rfl (.tmp 39) (.tmp 43) 22 3 rfl i0 Try.underlying22 HI.out HZ0.out HZ1.out HZ2.out w3.heap.size A' n' c' (stepIs W a b ps k) (stepI W a b ps k) rfl HO.out rfl hn9 hsw ?_; intro A3 c3 w5 hown3 hb5)
            have O3 := Lib.hid hown3
            have B3 := Lib.hid (HB.out.trans hb5)
            clear hown3 hb5
            go_wp2
            go_roundw
            case rel => exact ⟨k + 1, n' + 1, c3, A3, by omega, by go_num, rfl, (by rw [stepIs_succ]; exact O3.out), B3.out⟩
            case measure => simp [intOf]; omega
        · have hkm : ps.length - 1 = k := by have := HPL.out; omega
          have HV := Lib.hid (show wstepsV W H xs a b ps = stepIs W a b ps k by rw [wstepsV, if_pos HQ.out, hkm])
          have HO := Lib.hid (hown.lower B.out.size); have HB := Lib.hid hbw
          have hk2 : ¬ (k : Int) < ((m - 1 : Nat) : Int) := by omega
          clear hown hbw hkm
          go_wp2
          go_ret2
          exact ⟨_, _, _, rfl, by rw [HV.out]; exact HO.out, B.out.trans (HB.out.mono B.out.size)⟩
  | false =>
    have HQ := Lib.hid hq
    clear hq
    go_enter Try.func50, Try.ntmps50
    go_wp2_with fail
    rw [← hW2]
    clear hW2
    refine (areWalks_any W H A n c xs a b _ 1 [ps] _ R.out WA.out rfl (by decide)).mono ?_
    rw [wks_one, show (twoV W H xs a b && walkB W H xs a b ps) = false from HQ.out]
    rintro e wv ⟨rfl, hb⟩
    replace a0 := cell_keep a0 al hb; replace a1 := cell_keep a1 al hb; replace a2 := cell_keep a2 al hb; replace al := lt_keep al hb
    replace l0 := cell_keep l0 ll hb; replace l1 := cell_keep l1 ll hb; replace ll := lt_keep ll hb
    replace R := Lib.hid (R.out.keep hb); replace RP := Lib.hid (RP.out.keep hb)
    replace B := Lib.hid (below_next B.out hb)
    clear hb
    clear WA
    clear a0 a1 a2 l0 l1 al ll
    go_wp2
    go_ret2
    exact ⟨none, 0, 0, rfl, by rw [wstepsV, if_neg (by rw [HQ.out]; simp)]; exact OwnI.none_ _ _ _, B.out⟩

end Go.Proofs.Ytphjkmikleldcaa
