/-
  Contracts: the cells to which a leaper leaps, in the program, in order.
-/
import Derived.Test.YtnmmgalidkambaaGreatDoorS7
namespace Go.Proofs.YtnmmgalidkambaaGreatDoor
open Go.RowKit

theorem leap_at {E : TypeId} {x y : Int} {w : World} {lo g n c : Nat} {xs : List (Int × Int)} (h : OwnK (encL x y) 4 E w lo (some ⟨g, 0, none⟩) n c xs) {i : Nat} {p : Int × Int} (hx : xs[i]? = some p) :
    w.cell? ⟨g, i * 4, none⟩ = some (.int .i64 x) ∧ w.cell? ⟨g, i * 4 + 1, none⟩ = some (.int .i64 y) ∧ w.cell? ⟨g, i * 4 + 2, none⟩ = some (.int .i64 p.1) ∧ w.cell? ⟨g, i * 4 + 3, none⟩ = some (.int .i64 p.2) :=
  ⟨OwnK.cell (j := 0) (encL_len x y) h hx rfl, OwnK.cell (j := 1) (encL_len x y) h hx rfl, OwnK.cell (j := 2) (encL_len x y) h hx rfl, OwnK.cell (j := 3) (encL_len x y) h hx rfl⟩
theorem goesL_len8 {W H a b q : Int} {xs : List Int} (hl : leaperB a b = true) : (goesL W H xs a b q).length ≤ 8 :=
  Nat.le_trans (List.length_filter_le _ _) (stepsL_len hl)
theorem goesL_bd {W H a b q : Int} {xs : List Int} {p : Int × Int} (hl : leaperB a b = true) (hp : p ∈ goesL W H xs a b q) : -5 ≤ p.1 ∧ p.1 ≤ 5 ∧ -5 ≤ p.2 ∧ p.2 ≤ 5 :=
  stepsL_bd hl (List.mem_filter.1 hp).1

theorem keepL {w w' : World} {β γ : Nat} {u0 u1 u2 u3 u4 : Value} (h0 : w.cell? ⟨β, 0, none⟩ = some u0) (h1 : w.cell? ⟨γ, 0, none⟩ = some u1) (h2 : w.cell? ⟨γ, 1, none⟩ = some u2) (h3 : w.cell? ⟨γ, 2, none⟩ = some u3) (h4 : w.cell? ⟨γ, 3, none⟩ = some u4) (hl : β < w.heap.size) (hm : γ < w.heap.size) (hb : Below w.heap.size w w') :
    w'.cell? ⟨β, 0, none⟩ = some u0 ∧ w'.cell? ⟨γ, 0, none⟩ = some u1 ∧ w'.cell? ⟨γ, 1, none⟩ = some u2 ∧ w'.cell? ⟨γ, 2, none⟩ = some u3 ∧ w'.cell? ⟨γ, 3, none⟩ = some u4 := ⟨cell_keep h0 hl hb, cell_keep h1 hm hb, cell_keep h2 hm hb, cell_keep h3 hm hb, cell_keep h4 hm hb⟩

set_option maxRecDepth 100000 in
set_option maxHeartbeats 2000000 in
theorem leapCells_any (W H : Int) (A : Option Addr) (n c : Nat) (xs : List Int) (a b q : Int) (w : World) (ha : Rd w A n xs) (hg : goodB W H xs = true) (hl : leaperB a b = true) (hq : 0 ≤ q ∧ q < W * H) :
    Calls Tryz.prog 55 #[brd W H A n c, lpr a b, .int .i64 q] w fun e w' => ∃ A' n' c', e = .returned (.slice A' n' c') ∧ OwnI 3 w' w.heap.size A' n' c' (leapsL W H xs a b q) ∧ Below w.heap.size w w' := by
  obtain ⟨hW, hH, _, _⟩ := goodB_iff.1 hg
  have HW := Lib.hid hW; have HN := Lib.hid (cells_le hW hH); have HQ := Lib.hid hq
  have HM := Lib.hid (mod_bd (c := q) hW); have HD := Lib.hid (div7 hW hH hq)
  have HG := Lib.hid hg; have HL := Lib.hid hl
  obtain ⟨i0, hi, hz0, hz1, hz2⟩ := info_parts infoI
  have HI := Lib.hid hi; have HZ0 := Lib.hid hz0; have HZ1 := Lib.hid hz1; have HZ2 := Lib.hid hz2
  clear hW hH hg hl hq hi hz0 hz1 hz2
  obtain ⟨W2, hW2⟩ : ∃ W2, W2 = (w.alloc (.cells #[.int .i64 W, .int .i64 H, .slice A n c] 30)).alloc (.cells #[.int .i64 a, .int .i64 b] 32) := ⟨_, rfl⟩
  have a0 : W2.cell? ⟨w.heap.size, 0, none⟩ = some (.int .i64 W) := by rw [hW2]; go_simp
  have hsz : w.heap.size + 2 ≤ W2.heap.size := by rw [hW2]; simp
  have B := Lib.hid (show Below w.heap.size w W2 by rw [hW2]; exact below_new (below_new (Below.refl _ _) _) _)
  have R := Lib.hid (ha.keep B.out)
  have ga : w.heap.size < W2.heap.size := by omega
  go_enter Tryz.func55, Tryz.ntmps55
  go_wp2_with fail
  rw [← hW2]
  clear hW2
  refine (leapsAt_any W H A n c xs a b q _ R.out HG.out HL.out HQ.out).mono ?_
  rintro e ws ⟨A1, n1, c1, rfl, hst, hb⟩
  replace a0 := cell_keep a0 ga hb; replace ga := lt_keep ga hb
  have hB0 := B.out.size
  replace B := Lib.hid (below_next B.out hb)
  have hs1 := hb.size
  have ST := Lib.hid hst
  have SL := Lib.hid hst.len
  have n8 : n1 ≤ 8 := by have := goesL_len8 (W := W) (H := H) (xs := xs) (q := q) HL.out; have := hst.len; omega
  obtain ⟨G, hG⟩ : ∃ G, goesL W H xs a b q = G := ⟨_, rfl⟩
  rw [hG] at ST SL
  have HGG := Lib.hid hG
  clear hst hb hG R
  go_wp2
  go_loopw [7, 15] (fun v i wr => ∃ (k c' : Nat) (A' : Option Addr), k ≤ n1 ∧ i = .int .i64 k ∧ v = .slice A' k c' ∧ OwnI 3 wr ws.heap.size A' k c' ((G.take k).map (endN W q)) ∧ Below ws.heap.size ws wr) (fun _ i _ => n1 - (intOf i).toNat)
  case atStart => exact ⟨0, 0, none, by omega, rfl, rfl, OwnI.none_ _ _ _, Below.refl _ _⟩
  case round =>
    obtain ⟨k, c', A', hk, rfl, rfl, hown, hbw⟩ := hrel
    by_cases hlt : k < n1
    · obtain ⟨⟨dx, dy⟩, hx⟩ : ∃ p, G[k]? = some p := ⟨_, List.getElem?_eq_getElem (show k < G.length by have := SL.out; omega)⟩
      obtain ⟨g1, rfl, _, hg1⟩ := ST.out.some_ hlt
      obtain ⟨x0, x1, x2, x3⟩ := leap_at ST.out hx
      have hbd := goesL_bd HL.out (W := W) (H := H) (xs := xs) (q := q) (p := (dx, dy)) (by rw [HGG.out]; exact List.mem_of_getElem? hx)
      simp only at x2 x3 hbd
      have HX := Lib.hid hx; have HBD := Lib.hid hbd
      replace x0 := cell_keep x0 hg1 hbw; replace x1 := cell_keep x1 hg1 hbw; replace x2 := cell_keep x2 hg1 hbw; replace x3 := cell_keep x3 hg1 hbw
      have b0 := cell_keep a0 ga hbw
      have gb := lt_keep ga hbw
      have HO := Lib.hid hown; have HB := Lib.hid hbw
      have hsw := hbw.size
      have hAn : Hid (∀ y, A' = some y → y.block < wr.heap.size) := Lib.hid (fun y hy => by
        rcases hown.form with ⟨h, _⟩ | ⟨g, h, _, h2, _⟩
        · rw [h] at hy; cases hy
        · rw [h] at hy; injection hy with hy; rw [← hy]; exact h2)
      have hAlo : Hid (∀ y, A' = some y → ws.heap.size ≤ y.block) := Lib.hid (fun y hy => by
        rcases hown.form with ⟨h, _⟩ | ⟨g, h, h2, _, _⟩
        · rw [h] at hy; cases hy
        · rw [h] at hy; injection hy with hy; rw [← hy]; exact h2)
      clear hx hbd hown hbw
      go_upto_region 5 with fail
      obtain ⟨W3, hW3⟩ : ∃ W3, W3 = wr.alloc (.cells #[.int .i64 (q % W), .int .i64 (q / W), .int .i64 dx, .int .i64 dy] 92) := ⟨_, rfl⟩
      obtain ⟨gp, hgp⟩ : ∃ gp, gp = wr.heap.size := ⟨_, rfl⟩
      have p0 : W3.cell? ⟨gp, 0, none⟩ = some (.int .i64 (q % W)) := by rw [hW3, hgp]; go_simp
      have p1 : W3.cell? ⟨gp, 1, none⟩ = some (.int .i64 (q / W)) := by rw [hW3, hgp]; go_simp
      have p2 : W3.cell? ⟨gp, 2, none⟩ = some (.int .i64 dx) := by rw [hW3, hgp]; go_simp
      have p3 : W3.cell? ⟨gp, 3, none⟩ = some (.int .i64 dy) := by rw [hW3, hgp]; go_simp
      have hb3 : Below wr.heap.size wr W3 := by rw [hW3]; exact below_new (Below.refl _ _) _
      replace b0 := cell_keep b0 gb hb3; replace gb := lt_keep gb hb3
      have gl : gp < W3.heap.size := by rw [hW3, hgp]; simp
      replace HO := Lib.hid (HO.out.keep hb3); replace HB := Lib.hid (HB.out.trans (hb3.mono hsw))
      have hgs : ws.heap.size ≤ gp := by omega
      replace hsw : ws.heap.size ≤ W3.heap.size := by omega
      have hne : Hid (∀ y, A' = some y → y.block ≠ gp) := Lib.hid (fun y hy => by have := hAn.out y hy; omega)
      have hne0 : Hid (∀ y, A' = some y → y.block ≠ w.heap.size) := Lib.hid (fun y hy => by have := hAlo.out y hy; omega)
      rw [← hW3, ← hgp]
      clear hW3 hb3 x0 x1 x2 x3 hgp
      have HMUL : Hid (-3000 ≤ (q / W + dy) * W ∧ (q / W + dy) * W ≤ 3000) := Lib.hid (by have := mul_bd (y := q / W + dy) (by have := HD.out; have := HBD.out; omega) HW.out; omega)
      go_region_held3 (fun w' => w'.cell? ⟨w.heap.size, 0, none⟩ = some (.int .i64 W) ∧ w'.cell? ⟨gp, 0, none⟩ = some (.int .i64 (q % W)) ∧ w'.cell? ⟨gp, 1, none⟩ = some (.int .i64 (q / W)) ∧ w'.cell? ⟨gp, 2, none⟩ = some (.int .i64 dx) ∧ w'.cell? ⟨gp, 3, none⟩ = some (.int .i64 dy)) (first | exact ⟨b0, p0, p1, p2, p3⟩ | exact keepL b0 p0 p1 p2 p3 gb gl (below_new (Below.refl _ _) _))
        (first
          | (go_at_call 75; refine (end_any (q % W) (q / W) dx dy _ ?_ ?_ ?_ ?_).mono ?_; (have := HM.out; omega); (have := HD.out; omega); (have := HBD.out; omega); (have := HBD.out; omega); rintro e wv ⟨rfl, hb⟩; (repeat (first | replace hb := below_undrew hb | replace hb := below_undrewN' hb)); replace HO := Lib.hid (HO.out.keep hb); replace b0 := cell_keep b0 gb hb; replace gb := lt_keep gb hb; replace p0 := cell_keep p0 gl hb; replace p1 := cell_keep p1 gl hb; replace p2 := cell_keep p2 gl hb; replace p3 := cell_keep p3 gl hb; replace gl := lt_keep gl hb; replace HB := Lib.hid (HB.out.trans (hb.mono (by omega))); replace hsw := Nat.le_trans hsw hb.size; clear hb)
          | (go_at_call 76; refine (number_gen (q % W + dx) (q / W + dy) W _ ?_ ?_).mono ?_; (have := HM.out; have := HBD.out; omega); (have := HMUL.out; omega); rintro e wv ⟨rfl, hb⟩; (repeat (first | replace hb := below_undrew hb | replace hb := below_undrewN' hb)); replace HO := Lib.hid (HO.out.keep hb); replace b0 := cell_keep b0 gb hb; replace gb := lt_keep gb hb; replace p0 := cell_keep p0 gl hb; replace p1 := cell_keep p1 gl hb; replace p2 := cell_keep p2 gl hb; replace p3 := cell_keep p3 gl hb; replace gl := lt_keep gl hb; replace HB := Lib.hid (HB.out.trans (hb.mono (by omega))); replace hsw := Nat.le_trans hsw hb.size; clear hb)
          | (refine step_app1 rfl (.tmp 19) (.tmp 25) 22 3 rfl i0 Tryz.underlying22 HI.out HZ0.out HZ1.out HZ2.out ws.heap.size A' k c' ((G.take k).map (endN W q)) ((q / W + dy) * W + (q % W + dx)) rfl HO.out rfl (by omega) hsw ?_; intro A2 c3 w2 hown2 hb2 hfar; replace b0 := (hfar _ _ gb hne0.out).trans b0; replace p0 := (hfar _ _ gl hne.out).trans p0; replace p1 := (hfar _ _ gl hne.out).trans p1; replace p2 := (hfar _ _ gl hne.out).trans p2; replace p3 := (hfar _ _ gl hne.out).trans p3; have HO2 := Lib.hid hown2; replace HB := Lib.hid (HB.out.trans hb2); clear hown2 hb2 hfar HO))
      all_goals go_wp2
      all_goals go_roundw
      case rel => exact ⟨k + 1, c3, A2, by omega, by go_num, rfl, by rw [List.take_add_one, HX.out, List.map_append]; exact HO2.out, HB.out⟩
      case measure => simp [intOf]; omega
    · have e : k = n1 := by omega
      subst e
      have e2 : G.take k = G := List.take_of_length_le (by have := SL.out; omega)
      rw [e2] at hown
      have HO := Lib.hid hown; have HB := Lib.hid hbw
      have hsw := hbw.size
      clear hown hbw e2
      go_wp2_with fail
      refine (sortI_any ws.heap.size A' k c' (G.map (endN W q)) wr HO.out (by omega) hsw).mono ?_
      rintro e wv ⟨rfl, ⟨ys, hys, hperm, hsort⟩, hb⟩
      have e3 : ys = leapsL W H xs a b q := ends_sorted (W := W) (H := H) (hs := xs) (c := q) HW.out.1 HL.out (by rw [HGG.out]; exact hperm) hsort
      rw [e3] at hys
      have HY := Lib.hid hys; have HB2 := Lib.hid (HB.out.trans hb)
      clear hys hb hperm hsort e3 HB HO
      go_wp2
      go_ret
      exact ⟨A', k, c', rfl, HY.out.lower (by omega), B.out.trans (HB2.out.mono (by omega))⟩

end Go.Proofs.YtnmmgalidkambaaGreatDoor
