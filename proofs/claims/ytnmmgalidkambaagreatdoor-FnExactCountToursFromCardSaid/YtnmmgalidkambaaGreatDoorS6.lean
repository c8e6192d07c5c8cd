/-
  Contracts: the leaps from a cell, in the program.
-/
import Derived.Test.YtnmmgalidkambaaGreatDoorS4
import Derived.Test.YtnmmgalidkambaaGreatDoorS5
import Derived.Test.YtnmmgalidkambaaGreatDoorB11
import Derived.Test.YtnmmgalidkambaaGreatDoorY0
import Derived.Deep.RegionWith
import Derived.Deep.DeepCutAuto
namespace Go.Proofs.YtnmmgalidkambaaGreatDoor
open Go.RowKit

abbrev lpv (x y dx dy : Int) : Value := .agg #[.int .i64 x, .int .i64 y, .int .i64 dx, .int .i64 dy]
def encL (x y : Int) (p : Int × Int) : List Value := [.int .i64 x, .int .i64 y, .int .i64 p.1, .int .i64 p.2]
theorem encL_len (x y : Int) (p : Int × Int) : (encL x y p).length = 4 := rfl
theorem encL_one (x y : Int) (p : Int × Int) : ∀ u ∈ encL x y p, u.oneCell' = true := fun u hu => by simp [encL] at hu; rcases hu with rfl | rfl | rfl | rfl <;> rfl
theorem infoL : (Tryz.prog.info? 92).map (fun i => (i.zero, i.size, i.bytes)) = some (some (.agg #[.int .i64 0, .int .i64 0, .int .i64 0, .int .i64 0]), 4, 32) := by kernel_rfl

set_option maxHeartbeats 400000 in
theorem end_any (x y dx dy : Int) (w : World) (hx : -100 ≤ x ∧ x ≤ 100) (hy : -100 ≤ y ∧ y ≤ 100) (hdx : -100 ≤ dx ∧ dx ≤ 100) (hdy : -100 ≤ dy ∧ dy ≤ 100) :
    Calls Tryz.prog 75 #[lpv x y dx dy] w fun e w' => e = .returned (lpr (x + dx) (y + dy)) ∧ Below w.heap.size w w' := by
  have HX := Lib.hid hx; have HY := Lib.hid hy; have HDX := Lib.hid hdx; have HDY := Lib.hid hdy
  clear hx hy hdx hdy
  obtain ⟨W3, hW3⟩ : ∃ W3, W3 = (w.alloc (.cells #[.int .i64 x, .int .i64 y, .int .i64 dx, .int .i64 dy] 92)).alloc (.cells #[.int .i64 0, .int .i64 0] 90) := ⟨_, rfl⟩
  have B := Lib.hid (show Below w.heap.size w W3 by rw [hW3]; exact below_new (below_new (Below.refl _ _) _) _)
  have s0 : W3.cell? ⟨w.heap.size + 1, 0, none⟩ = some (.int .i64 0) := by rw [hW3]; go_simp
  have s1 : W3.cell? ⟨w.heap.size + 1, 1, none⟩ = some (.int .i64 0) := by rw [hW3]; go_simp
  have z0 : W3.frozen? ⟨w.heap.size + 1, 0, none⟩ = false := by rw [hW3]; go_simp
  have z1 : W3.frozen? ⟨w.heap.size + 1, 1, none⟩ = false := by rw [hW3]; go_simp
  have hsz : W3.heap.size = w.heap.size + 2 := by rw [hW3]; simp
  go_enter Tryz.func75, Tryz.ntmps75
  go_wp2_with fail
  refine (plus_any x y dx dy _ HX.out HY.out HDX.out HDY.out).mono ?_
  rintro e wv ⟨rfl, hb⟩
  rw [← hW3] at hb
  have hl : w.heap.size + 1 < W3.heap.size := by omega
  have t0 := cell_keep s0 hl hb; have t1 := cell_keep s1 hl hb
  have f0 := ((bcell hb).2 _ 0 hl).trans z0; have f1 := ((bcell hb).2 _ 1 hl).trans z1
  replace hl := lt_keep hl hb
  replace B := Lib.hid (below_next B.out hb)
  clear hb hW3 s0 s1 z0 z1 hsz
  go_wp2
  exact bodyPost_ret (v := lpr (x + dx) (y + dy)) (by simp [results, Tryz.results75, go_sem, t0, t1]) rfl ⟨rfl, (by repeat (first | exact B.out | refine Below.setCell ?_ (by simp; try omega) _ | refine Below.drew ?_))⟩

theorem goes_yes {W H a b q : Int} {xs : List Int} {k : Nat} {p : Int × Int} (hx : (stepsL a b)[k]? = some p) (h : spotB W H xs (q % W + p.1) (q / W + p.2) = true) :
    ((stepsL a b).take (k + 1)).filter (fun p => spotB W H xs (q % W + p.1) (q / W + p.2)) = ((stepsL a b).take k).filter (fun p => spotB W H xs (q % W + p.1) (q / W + p.2)) ++ [p] := by
  rw [List.take_add_one, hx, List.filter_append]; simp [h]
theorem goes_no {W H a b q : Int} {xs : List Int} {k : Nat} {p : Int × Int} (hx : (stepsL a b)[k]? = some p) (h : spotB W H xs (q % W + p.1) (q / W + p.2) = false) :
    ((stepsL a b).take (k + 1)).filter (fun p => spotB W H xs (q % W + p.1) (q / W + p.2)) = ((stepsL a b).take k).filter (fun p => spotB W H xs (q % W + p.1) (q / W + p.2)) := by
  rw [List.take_add_one, hx, List.filter_append]; simp [h]
theorem below_undrewN' {w w' : World} {k : Nat} (h : Below (w.drewN k).heap.size (w.drewN k) w') : Below w.heap.size w w' := ⟨h.os, h.tape, h.output, h.size, h.block⟩
theorem keep5 {w w' : World} {β γ : Nat} {u0 u1 u2 u3 u4 : Value} (h0 : w.cell? ⟨β, 0, none⟩ = some u0) (h1 : w.cell? ⟨β, 1, none⟩ = some u1) (h2 : w.cell? ⟨β, 2, none⟩ = some u2) (h3 : w.cell? ⟨γ, 0, none⟩ = some u3) (h4 : w.cell? ⟨γ, 1, none⟩ = some u4) (hl : β < w.heap.size) (hm : γ < w.heap.size) (hb : Below w.heap.size w w') :
    w'.cell? ⟨β, 0, none⟩ = some u0 ∧ w'.cell? ⟨β, 1, none⟩ = some u1 ∧ w'.cell? ⟨β, 2, none⟩ = some u2 ∧ w'.cell? ⟨γ, 0, none⟩ = some u3 ∧ w'.cell? ⟨γ, 1, none⟩ = some u4 := ⟨cell_keep h0 hl hb, cell_keep h1 hl hb, cell_keep h2 hl hb, cell_keep h3 hm hb, cell_keep h4 hm hb⟩
def LeapAt (wr : World) (g : Nat) (x y dx dy : Int) : Prop := wr.cell? ⟨g, 0, none⟩ = some (.int .i64 x) ∧ wr.cell? ⟨g, 1, none⟩ = some (.int .i64 y) ∧ wr.cell? ⟨g, 2, none⟩ = some (.int .i64 dx) ∧ wr.cell? ⟨g, 3, none⟩ = some (.int .i64 dy) ∧ g < wr.heap.size

set_option maxRecDepth 100000 in
set_option maxHeartbeats 2000000 in
theorem leapsAt_any (W H : Int) (A : Option Addr) (n c : Nat) (xs : List Int) (a b q : Int) (w : World) (ha : Rd w A n xs) (hg : goodB W H xs = true) (hl : leaperB a b = true) (hq : 0 ≤ q ∧ q < W * H) :
    Calls Tryz.prog 74 #[brd W H A n c, lpr a b, .int .i64 q] w fun e w' => ∃ A' n' c', e = .returned (.slice A' n' c') ∧ OwnK (encL (q % W) (q / W)) 4 92 w' w.heap.size A' n' c' (goesL W H xs a b q) ∧ Below w.heap.size w w' := by
  obtain ⟨hW, hH, _, _⟩ := goodB_iff.1 hg
  have HW := Lib.hid hW; have HN := Lib.hid (cells_le hW hH); have HQ := Lib.hid hq
  have HM := Lib.hid (mod_bd (c := q) hW); have HD := Lib.hid (div7 hW hH hq)
  have HG := Lib.hid hg; have HL := Lib.hid hl
  obtain ⟨i0, hi, hz0, hz1, hz2⟩ := info_parts infoL
  have HI := Lib.hid hi; have HZ0 := Lib.hid hz0; have HZ1 := Lib.hid hz1; have HZ2 := Lib.hid hz2
  clear hW hH hg hl hq hi hz0 hz1 hz2
  obtain ⟨W2, hW2⟩ : ∃ W2, W2 = (w.alloc (.cells #[.int .i64 W, .int .i64 H, .slice A n c] 30)).alloc (.cells #[.int .i64 a, .int .i64 b] 32) := ⟨_, rfl⟩
  have a0 : W2.cell? ⟨w.heap.size, 0, none⟩ = some (.int .i64 W) := by rw [hW2]; go_simp
  have a1 : W2.cell? ⟨w.heap.size, 1, none⟩ = some (.int .i64 H) := by rw [hW2]; go_simp
  have a2 : W2.cell? ⟨w.heap.size, 2, none⟩ = some (.slice A n c) := by rw [hW2]; go_simp
  have l0 : W2.cell? ⟨w.heap.size + 1, 0, none⟩ = some (.int .i64 a) := by rw [hW2]; go_simp
  have l1 : W2.cell? ⟨w.heap.size + 1, 1, none⟩ = some (.int .i64 b) := by rw [hW2]; go_simp
  have hsz : w.heap.size + 2 ≤ W2.heap.size := by rw [hW2]; simp
  have B := Lib.hid (show Below w.heap.size w W2 by rw [hW2]; exact below_new (below_new (Below.refl _ _) _) _)
  have R := Lib.hid (ha.keep B.out)
  have ga : w.heap.size < W2.heap.size := by omega
  go_enter Tryz.func74, Tryz.ntmps74
  go_wp2_with fail
  rw [← hW2]
  clear hW2
  refine (stepsOf_any a b _ HL.out).mono ?_
  rintro e ws ⟨A1, n1, c1, rfl, hst, hb⟩
  replace R := Lib.hid (R.out.keep hb)
  replace a0 := cell_keep a0 ga hb; replace a1 := cell_keep a1 ga hb; replace a2 := cell_keep a2 ga hb; replace ga := lt_keep ga hb
  have hB0 := B.out.size
  replace B := Lib.hid (below_next B.out hb)
  have hs1 := hb.size
  have ST := Lib.hid hst
  have SL := Lib.hid hst.len
  have S8 : Hid (n1 ≤ 8) := Lib.hid (by have := stepsL_len HL.out; have := hst.len; omega)
  clear hst hb l0 l1
  have n8 := S8.out
  go_wp2
  go_loopw [7, 14] (fun v i wr => ∃ (k n' c' : Nat) (A' : Option Addr), k ≤ n1 ∧ i = .int .i64 k ∧ v = .slice A' n' c' ∧ OwnK (encL (q % W) (q / W)) 4 92 wr ws.heap.size A' n' c' (((stepsL a b).take k).filter fun p => spotB W H xs (q % W + p.1) (q / W + p.2)) ∧ Below ws.heap.size ws wr) (fun _ i _ => n1 - (intOf i).toNat)
  case atStart => exact ⟨0, 0, 0, none, by omega, rfl, rfl, OwnK.none_ _ _ _ _ _, Below.refl _ _⟩
  case round =>
    obtain ⟨k, n', c', A', hk, rfl, rfl, hown, hbw⟩ := hrel
    by_cases hlt : k < n1
    · obtain ⟨⟨dx, dy⟩, hx⟩ : ∃ p, (stepsL a b)[k]? = some p := ⟨_, List.getElem?_eq_getElem (show k < (stepsL a b).length by have := SL.out; omega)⟩
      obtain ⟨g1, rfl, _, hg1⟩ := ST.out.some_ hlt
      obtain ⟨x0, x1⟩ := pair_at ST.out hx
      have hbd := stepsL_bd HL.out (List.mem_of_getElem? hx)
      simp only at x0 x1 hbd
      have HX := Lib.hid hx; have HBD := Lib.hid hbd
      have hn' : n' ≤ 8 := by have := hown.len; have := List.length_filter_le (fun p : Int × Int => spotB W H xs (q % W + p.1) (q / W + p.2)) ((stepsL a b).take k); rw [List.length_take] at this; omega
      replace x0 := cell_keep x0 hg1 hbw; replace x1 := cell_keep x1 hg1 hbw
      have b0 := cell_keep a0 ga hbw; have b1 := cell_keep a1 ga hbw; have b2 := cell_keep a2 ga hbw
      have gb := lt_keep ga hbw
      have RR := Lib.hid (R.out.keep hbw)
      have HO := Lib.hid hown; have HB := Lib.hid hbw
      have hsw := hbw.size
      clear hx hbd hown hbw
      go_upto_region 5 with fail
      obtain ⟨W3, hW3⟩ : ∃ W3, W3 = wr.alloc (.cells #[.int .i64 dx, .int .i64 dy] 90) := ⟨_, rfl⟩
      have d0 : W3.cell? ⟨wr.heap.size, 0, none⟩ = some (.int .i64 dx) := by rw [hW3]; go_simp
      have d1 : W3.cell? ⟨wr.heap.size, 1, none⟩ = some (.int .i64 dy) := by rw [hW3]; go_simp
      have hb3 : Below wr.heap.size wr W3 := by rw [hW3]; exact below_new (Below.refl _ _) _
      replace b0 := cell_keep b0 gb hb3; replace b1 := cell_keep b1 gb hb3; replace b2 := cell_keep b2 gb hb3; replace gb := lt_keep gb hb3
      have gd : wr.heap.size < W3.heap.size := by rw [hW3]; simp
      replace RR := Lib.hid (RR.out.keep hb3); replace HO := Lib.hid (HO.out.keep hb3); replace HB := Lib.hid (HB.out.trans (hb3.mono hsw))
      have hsw3 : ws.heap.size ≤ W3.heap.size := by omega
      rw [← hW3]
      clear hW3 hb3 x0 x1
      have hAD : ∀ (w : World) (k : Nat) (o : Obj), (w.drewN k).alloc o = (w.alloc o).drewN k := fun _ _ _ => rfl
      have hSD : ∀ (w : World) (k : Nat) (p : Addr) (u : Value), (w.drewN k).setCell p u = (w.setCell p u).drewN k := fun _ _ _ _ => rfl
      go_cut [10] (fun s10 wx => ∃ gp : Nat, s10 = .pointer (some ⟨gp, 0, none⟩) ∧ LeapAt wx gp (q % W) (q / W) dx dy ∧ Below W3.heap.size W3 wx)
      case first =>
        go_region_held3 (fun w' => w'.cell? ⟨w.heap.size, 0, none⟩ = some (.int .i64 W) ∧ w'.cell? ⟨w.heap.size, 1, none⟩ = some (.int .i64 H) ∧ w'.cell? ⟨w.heap.size, 2, none⟩ = some (.slice A n c) ∧ w'.cell? ⟨wr.heap.size, 0, none⟩ = some (.int .i64 dx) ∧ w'.cell? ⟨wr.heap.size, 1, none⟩ = some (.int .i64 dy)) (first | exact ⟨b0, b1, b2, d0, d1⟩ | exact keep5 b0 b1 b2 d0 d1 gb gd (by repeat (first | exact Below.refl _ _ | refine below_drewN ?_ _ | refine Below.drew ?_ | refine Below.setCell ?_ (by simp) _ | refine Below.setCell ?_ (by simp; omega) _ | refine below_new ?_ _)))
          (first
            | (go_at_call 89; refine (spotOf_exact W H A n c q _ ?_ ?_).mono ?_; (exact HW.out); (have := HQ.out; have := HN.out; omega); rintro e wv ⟨rfl, m, rfl⟩))
        all_goals (go_wp2_with fail; go_meet; exact ⟨_, rfl, ⟨by go_simp, by go_simp, by go_simp, by go_simp, by simp; try omega⟩, (by repeat (first | exact Below.refl _ _ | refine below_drewN ?_ _ | refine Below.drew ?_ | refine Below.setCell ?_ (by simp) _ | refine Below.setCell ?_ (by simp; omega) _ | refine below_new ?_ _))⟩)
      case rest =>
        obtain ⟨gp, rfl, hlp, hbx⟩ := hcut
        obtain ⟨p0, p1, p2, p3, gl⟩ := hlp
        have c0 := cell_keep b0 gb hbx; have c1' := cell_keep b1 gb hbx; have c2 := cell_keep b2 gb hbx; have gc := lt_keep gb hbx
        have RX := Lib.hid (RR.out.keep hbx)
        replace HO := Lib.hid (HO.out.keep hbx)
        replace HB := Lib.hid (HB.out.trans (hbx.mono hsw3))
        have hsx := Nat.le_trans hsw3 hbx.size
        have HMUL : Hid (-3000 ≤ (q / W + dy) * W ∧ (q / W + dy) * W ≤ 3000) := Lib.hid (by have := mul_bd (y := q / W + dy) (by have := HD.out; have := HBD.out; omega) HW.out; omega)
        clear hAD hSD hbx b0 b1 b2 gb d0 d1 gd RR hsw3
        cases hs : spotB W H xs (q % W + dx) (q / W + dy) with
        | true =>
          have HS := Lib.hid hs
          clear hs
          go_wp2_with fail
          go_region_held3 (fun w' => w'.cell? ⟨w.heap.size, 0, none⟩ = some (.int .i64 W) ∧ w'.cell? ⟨w.heap.size, 1, none⟩ = some (.int .i64 H) ∧ w'.cell? ⟨w.heap.size, 2, none⟩ = some (.slice A n c) ∧ w'.cell? ⟨gp, 0, none⟩ = some (.int .i64 (q % W)) ∧ w'.cell? ⟨gp, 1, none⟩ = some (.int .i64 (q / W)) ∧ w'.cell? ⟨gp, 2, none⟩ = some (.int .i64 dx) ∧ w'.cell? ⟨gp, 3, none⟩ = some (.int .i64 dy)) (first | exact ⟨c0, c1', c2, p0, p1, p2, p3⟩)
            (first
              | (go_at_call 75; refine (end_any (q % W) (q / W) dx dy _ ?_ ?_ ?_ ?_).mono ?_; (have := HM.out; omega); (have := HD.out; omega); (have := HBD.out; omega); (have := HBD.out; omega); rintro e wv ⟨rfl, hb⟩; (repeat (first | replace hb := below_undrew hb | replace hb := below_undrewN' hb)); replace RX := Lib.hid (RX.out.keep hb); replace HO := Lib.hid (HO.out.keep hb); replace c0 := cell_keep c0 gc hb; replace c1' := cell_keep c1' gc hb; replace c2 := cell_keep c2 gc hb; replace gc := lt_keep gc hb; replace p0 := cell_keep p0 gl hb; replace p1 := cell_keep p1 gl hb; replace p2 := cell_keep p2 gl hb; replace p3 := cell_keep p3 gl hb; replace gl := lt_keep gl hb; replace HB := Lib.hid (HB.out.trans (hb.mono (by omega))); replace hsx := Nat.le_trans hsx hb.size; clear hb)
              | (go_at_call 90; refine (isSpotThere_any W H A n c xs (q % W + dx) (q / W + dy) _ ?_ ?_ ?_ ?_).mono ?_; (exact RX.out); (exact HG.out); (have := HM.out; have := HBD.out; omega); (exact HMUL.out); rw [HS.out]; rintro e wv ⟨rfl, hb⟩; (repeat (first | replace hb := below_undrew hb | replace hb := below_undrewN' hb)); replace RX := Lib.hid (RX.out.keep hb); replace HO := Lib.hid (HO.out.keep hb); replace c0 := cell_keep c0 gc hb; replace c1' := cell_keep c1' gc hb; replace c2 := cell_keep c2 gc hb; replace gc := lt_keep gc hb; replace p0 := cell_keep p0 gl hb; replace p1 := cell_keep p1 gl hb; replace p2 := cell_keep p2 gl hb; replace p3 := cell_keep p3 gl hb; replace gl := lt_keep gl hb; replace HB := Lib.hid (HB.out.trans (hb.mono (by omega))); replace hsx := Nat.le_trans hsx hb.size; clear hb))

          all_goals go_wp2_with (at_builtin; refine wpList_appKn rfl (.tmp 27) (.tmp 29) 87 rfl i0 (.agg #[.int .i64 0, .int .i64 0, .int .i64 0, .int .i64 0]) 32 Tryz.underlying87 HI.out HZ0.out HZ1.out HZ2.out rfl (by decide) (by decide) (encL_len (q % W) (q / W)) (encL_one (q % W) (q / W)) ws.heap.size A' n' c' 1 (((stepsL a b).take k).filter fun p => spotB W H xs (q % W + p.1) (q / W + p.2)) [(dx, dy)] _ (by rfl) rfl HO.out rfl rfl (by omega) (by omega) ?_; intro A2 c3 w2 hown2 hb2)
          all_goals
            have HO2 := Lib.hid hown2; have HB2 := Lib.hid (HB.out.trans hb2)
            clear hown2 hb2
            go_wp2
            go_roundw
            case rel => exact ⟨k + 1, n' + 1, c3, A2, by omega, by go_num, rfl, by rw [goes_yes HX.out HS.out]; exact HO2.out, HB2.out⟩
            case measure => simp [intOf]; omega
        | false =>
          have HS := Lib.hid hs
          clear hs
          go_wp2_with fail
          go_region_held3 (fun w' => w'.cell? ⟨w.heap.size, 0, none⟩ = some (.int .i64 W) ∧ w'.cell? ⟨w.heap.size, 1, none⟩ = some (.int .i64 H) ∧ w'.cell? ⟨w.heap.size, 2, none⟩ = some (.slice A n c) ∧ w'.cell? ⟨gp, 0, none⟩ = some (.int .i64 (q % W)) ∧ w'.cell? ⟨gp, 1, none⟩ = some (.int .i64 (q / W)) ∧ w'.cell? ⟨gp, 2, none⟩ = some (.int .i64 dx) ∧ w'.cell? ⟨gp, 3, none⟩ = some (.int .i64 dy)) (first | exact ⟨c0, c1', c2, p0, p1, p2, p3⟩)
            (first
              | (go_at_call 75; refine (end_any (q % W) (q / W) dx dy _ ?_ ?_ ?_ ?_).mono ?_; (have := HM.out; omega); (have := HD.out; omega); (have := HBD.out; omega); (have := HBD.out; omega); rintro e wv ⟨rfl, hb⟩; (repeat (first | replace hb := below_undrew hb | replace hb := below_undrewN' hb)); replace RX := Lib.hid (RX.out.keep hb); replace HO := Lib.hid (HO.out.keep hb); replace c0 := cell_keep c0 gc hb; replace c1' := cell_keep c1' gc hb; replace c2 := cell_keep c2 gc hb; replace gc := lt_keep gc hb; replace p0 := cell_keep p0 gl hb; replace p1 := cell_keep p1 gl hb; replace p2 := cell_keep p2 gl hb; replace p3 := cell_keep p3 gl hb; replace gl := lt_keep gl hb; replace HB := Lib.hid (HB.out.trans (hb.mono (by omega))); replace hsx := Nat.le_trans hsx hb.size; clear hb)
              | (go_at_call 90; refine (isSpotThere_any W H A n c xs (q % W + dx) (q / W + dy) _ ?_ ?_ ?_ ?_).mono ?_; (exact RX.out); (exact HG.out); (have := HM.out; have := HBD.out; omega); (exact HMUL.out); rw [HS.out]; rintro e wv ⟨rfl, hb⟩; (repeat (first | replace hb := below_undrew hb | replace hb := below_undrewN' hb)); replace RX := Lib.hid (RX.out.keep hb); replace HO := Lib.hid (HO.out.keep hb); replace c0 := cell_keep c0 gc hb; replace c1' := cell_keep c1' gc hb; replace c2 := cell_keep c2 gc hb; replace gc := lt_keep gc hb; replace p0 := cell_keep p0 gl hb; replace p1 := cell_keep p1 gl hb; replace p2 := cell_keep p2 gl hb; replace p3 := cell_keep p3 gl hb; replace gl := lt_keep gl hb; replace HB := Lib.hid (HB.out.trans (hb.mono (by omega))); replace hsx := Nat.le_trans hsx hb.size; clear hb))

          all_goals go_wp2
          all_goals go_roundw
          case rel => exact ⟨k + 1, n', c', A', by omega, by go_num, rfl, by rw [goes_no HX.out HS.out]; exact HO.out, HB.out⟩
          case measure => simp [intOf]; omega
    · go_wp2
      go_ret
      have e : k = n1 := by omega
      have e2 : (stepsL a b).take k = stepsL a b := List.take_of_length_le (by have := SL.out; omega)
      rw [e2] at hown
      exact ⟨A', n', c', rfl, hown.lower (by omega), B.out.trans (hbw.mono (by omega))⟩

end Go.Proofs.YtnmmgalidkambaaGreatDoor
