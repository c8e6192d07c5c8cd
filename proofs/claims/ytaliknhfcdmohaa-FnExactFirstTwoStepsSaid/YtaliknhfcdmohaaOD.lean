/-
  Contracts: two steps by turns, in the program: the cells.
-/
import Derived.Test.YtaliknhfcdmohaaO3
import Derived.Test.YtaliknhfcdmohaaO4
import Derived.Test.YtaliknhfcdmohaaOB
import Derived.Test.YtaliknhfcdmohaaOC
namespace Go.Proofs.Ytaliknhfcdmohaa
open Go.RowKit

def lenS : Value → Nat
  | .slice _ n _ => n
  | _ => 0
theorem made_known (w : World) : OwnB 107 (w.alloc (.cells Try.zeroCells107 107)) w.heap.size (some ⟨w.heap.size, 0, none⟩) 144 144 (seenL 144 []) := by
  have h := World.ownsRow_lit (base := w.heap.size) (e := 107) w Try.zeroCells107 144 (size := 1) (Nat.le_refl _) (by decide) (by kernel_rfl)
  have e : Try.zeroCells107.toList = (seenL 144 []).map Value.bool := by rw [seenL_nil]; kernel_rfl
  rw [e] at h
  exact h
theorem SpotBox.keepLo {w w' : World} {g lo : Nat} {x y : Int} (h : SpotBox w g x y) (hb : Below lo w w') (hg : g < lo) : SpotBox w' g x y := (hb.block g hg).trans h
theorem own_ne {E : TypeId} {w : World} {lo g n c : Nat} {A : Option Addr} {xs : List Int} (h : OwnI E w lo A n c xs) (hg : g < lo) : ∀ a, A = some a → some a.block ≠ some g := fun a ha e => by
  rcases h.form with ⟨h1, _⟩ | ⟨g', h1, h2, _⟩
  · rw [h1] at ha; cases ha
  · rw [h1] at ha; injection ha with ha; rw [← ha] at e; injection e with e; simp at e; omega
theorem back_of {W H n x y : Int} {ac up : Bool} (h : inA W H (colA ac W (n % W + x)) (colA up H (n / W + y)) = true) :
    stepA W H ac up n x y % W = colA ac W (n % W + x) ∧ stepA W H ac up n x y / W = colA up H (n / W + y) := by
  rw [stepA_yes h]; exact mod_of (inA_iff.1 h).1

set_option maxRecDepth 100000 in
set_option maxHeartbeats 4000000 in
theorem twoSteps_any (W H : Int) (ac up : Bool) (dx1 dy1 dx2 dy2 t : Int) (w : World) (hg : goodA W H = true) (h1 : -5 ≤ dx1 ∧ dx1 ≤ 5 ∧ -5 ≤ dy1 ∧ dy1 ≤ 5) (h2 : -5 ≤ dx2 ∧ dx2 ≤ 5 ∧ -5 ≤ dy2 ∧ dy2 ≤ 5) (ht : 2 ≤ t ∧ t ≤ 150) :
    Calls Try.prog 80 #[ard W H ac up, lpr dx1 dy1, lpr dx2 dy2, .int .i64 t] w fun e w' => ∃ A' n' c', e = .returned (.slice A' n' c') ∧ OwnI 3 w' w.heap.size A' n' c' (turnsL W H ac up (dx1, dy1) (dx2, dy2) t) ∧ Below w.heap.size w w' := by
  have HG := Lib.hid hg
  have HB1 := Lib.hid h1; have HB2 := Lib.hid h2
  obtain ⟨i0, hi, hz0, hz1, hz2⟩ := info_parts infoI
  have HI := Lib.hid hi; have HZ0 := Lib.hid hz0; have HZ1 := Lib.hid hz1; have HZ2 := Lib.hid hz2
  clear hi hz0 hz1 hz2
  have hA := areaA hg
  obtain ⟨A1, A2⟩ := hA
  obtain ⟨⟨hW1, hW2b⟩, hH1, hH2⟩ := goodA_iff.1 hg
  obtain ⟨N, hN⟩ : ∃ N : Nat, W * H = (N : Int) := ⟨(W * H).toNat, by omega⟩
  have HWH := Lib.hid hN
  have hNn := Lib.hid (show (W * H).toNat = N by omega)
  have N1 : 1 ≤ N := by omega
  have N2 : N ≤ 144 := by omega
  obtain ⟨t1, t2⟩ := ht
  obtain ⟨TL, hTL⟩ : ∃ TL, turnsL W H ac up (dx1, dy1) (dx2, dy2) t = TL := ⟨_, rfl⟩
  rw [hTL]
  have HTL := Lib.hid (show TL = goT W H ac up (dx1, dy1) (dx2, dy2) t N [] 0 by rw [← hTL, turnsL, hNn.out])
  clear hTL hg hN A1 A2
  obtain ⟨K2, hK2⟩ : ∃ K2, K2 = ((w.alloc (.cells #[.int .i64 W, .int .i64 H, .bool ac, .bool up] 25)).alloc (.cells #[.int .i64 dx1, .int .i64 dy1] 59)).alloc (.cells #[.int .i64 dx2, .int .i64 dy2] 59) := ⟨_, rfl⟩
  have hKs : K2.heap.size = w.heap.size + 1 + 1 + 1 := by rw [hK2]; simp
  obtain ⟨K3, hK3⟩ : ∃ K3, K3 = K2.alloc (.cells Try.zeroCells107 107) := ⟨_, rfl⟩
  obtain ⟨W2, hW2⟩ : ∃ W2, W2 = K3.alloc (.cells #[.int .i64 0, .int .i64 0] 59) := ⟨_, rfl⟩
  have hk3 : K3.heap.size = K2.heap.size + 1 := by rw [hK3]; simp
  have hsz : W2.heap.size = w.heap.size + 5 := by rw [hW2]; simp; omega
  have hb3 : Below K2.heap.size K2 K3 := by rw [hK3]; exact below_new (Below.refl _ _) _
  have hb2 : Below K3.heap.size K3 W2 := by rw [hW2]; exact below_new (Below.refl _ _) _
  have KN0 := Lib.hid (show OwnB 107 W2 (w.heap.size + 1 + 1 + 1) (some ⟨w.heap.size + 1 + 1 + 1, 0, none⟩) 144 144 (seenL 144 []) by
    have h := made_known K2
    rw [← hK3, hKs] at h
    exact h.keep hb2)
  have TB0 := Lib.hid (show SpotBox W2 (w.heap.size + 1 + 1 + 1 + 1) 0 0 by
    rw [hW2, show w.heap.size + 1 + 1 + 1 + 1 = K3.heap.size by omega]; exact heap_alloc_new _ _)
  have B2K := Lib.hid (show Below K2.heap.size K2 W2 from hb3.trans (hb2.mono (by omega)))
  have a0 : W2.cell? ⟨w.heap.size, 0, none⟩ = some (.int .i64 W) := (B2K.out.cell (p := ⟨w.heap.size, 0, none⟩) (by simp; omega)).trans (by rw [hK2]; go_simp)
  have a1 : W2.cell? ⟨w.heap.size, 1, none⟩ = some (.int .i64 H) := (B2K.out.cell (p := ⟨w.heap.size, 1, none⟩) (by simp; omega)).trans (by rw [hK2]; go_simp)
  have a2 : W2.cell? ⟨w.heap.size, 2, none⟩ = some (.bool ac) := (B2K.out.cell (p := ⟨w.heap.size, 2, none⟩) (by simp; omega)).trans (by rw [hK2]; go_simp)
  have a3 : W2.cell? ⟨w.heap.size, 3, none⟩ = some (.bool up) := (B2K.out.cell (p := ⟨w.heap.size, 3, none⟩) (by simp; omega)).trans (by rw [hK2]; go_simp)
  have al : w.heap.size < W2.heap.size := by omega
  have o0 : W2.cell? ⟨w.heap.size + 1, 0, none⟩ = some (.int .i64 dx1) := (B2K.out.cell (p := ⟨w.heap.size + 1, 0, none⟩) (by simp; omega)).trans (by rw [hK2]; go_simp)
  have o1 : W2.cell? ⟨w.heap.size + 1, 1, none⟩ = some (.int .i64 dy1) := (B2K.out.cell (p := ⟨w.heap.size + 1, 1, none⟩) (by simp; omega)).trans (by rw [hK2]; go_simp)
  have ol : w.heap.size + 1 < W2.heap.size := by omega
  have d0 : W2.cell? ⟨w.heap.size + 1 + 1, 0, none⟩ = some (.int .i64 dx2) := (B2K.out.cell (p := ⟨w.heap.size + 1 + 1, 0, none⟩) (by simp; omega)).trans (by rw [hK2]; go_simp)
  have d1 : W2.cell? ⟨w.heap.size + 1 + 1, 1, none⟩ = some (.int .i64 dy2) := (B2K.out.cell (p := ⟨w.heap.size + 1 + 1, 1, none⟩) (by simp; omega)).trans (by rw [hK2]; go_simp)
  have dl : w.heap.size + 1 + 1 < W2.heap.size := by omega
  have B := Lib.hid (show Below w.heap.size w W2 from (show Below w.heap.size w K2 by rw [hK2]; repeat (first | exact Below.refl _ _ | refine below_new ?_ _)).trans (B2K.out.mono (by omega)))
  have hWW : W2 = ((((w.alloc (.cells #[.int .i64 W, .int .i64 H, .bool ac, .bool up] 25)).alloc (.cells #[.int .i64 dx1, .int .i64 dy1] 59)).alloc (.cells #[.int .i64 dx2, .int .i64 dy2] 59)).alloc (.cells Try.zeroCells107 107)).alloc (.cells #[.int .i64 0, .int .i64 0] 59) := by rw [hW2, hK3, hK2]
  clear hW2 hK3 hb3 hb2 hk3 hK2 hKs
  go_enter Try.func80, Try.ntmps80
  go_wp2
  rw [← hWW]
  clear hWW
  obtain ⟨gk, hgk⟩ : ∃ gk, gk = w.heap.size + 1 + 1 + 1 := ⟨_, rfl⟩
  obtain ⟨gat, hgat⟩ : ∃ gat, gat = w.heap.size + 1 + 1 + 1 + 1 := ⟨_, rfl⟩
  rw [← hgat] at TB0 ⊢
  rw [← hgk] at KN0 ⊢
  have hh1 : w.heap.size + 1 + 1 < gk := by omega
  have hh2 : gk < gat := by omega
  have hh3 : gat < W2.heap.size := by omega
  have hh0 : w.heap.size ≤ gk := by omega
  have AL := Lib.hid (⟨a0, a1, a2, a3⟩ : W2.cell? ⟨w.heap.size, 0, none⟩ = some (.int .i64 W) ∧ W2.cell? ⟨w.heap.size, 1, none⟩ = some (.int .i64 H) ∧ W2.cell? ⟨w.heap.size, 2, none⟩ = some (.bool ac) ∧ W2.cell? ⟨w.heap.size, 3, none⟩ = some (.bool up))
  have OL := Lib.hid (⟨o0, o1, d0, d1⟩ : W2.cell? ⟨w.heap.size + 1, 0, none⟩ = some (.int .i64 dx1) ∧ W2.cell? ⟨w.heap.size + 1, 1, none⟩ = some (.int .i64 dy1) ∧ W2.cell? ⟨w.heap.size + 1 + 1, 0, none⟩ = some (.int .i64 dx2) ∧ W2.cell? ⟨w.heap.size + 1 + 1, 1, none⟩ = some (.int .i64 dy2))
  clear a0 a1 a2 a3 al o0 o1 ol d0 d1 dl hgk hgat hsz
  go_loopw [10, 12] (fun v ok wr => ∃ (n' c' fu : Nat) (A' : Option Addr) (P : List Int) (n x y : Int) (okb : Bool), v = .slice A' n' c' ∧ ok = .bool okb ∧ OwnI 3 wr W2.heap.size A' n' c' P ∧ SpotBox wr gat x y ∧ OwnB 107 wr gk (some ⟨gk, 0, none⟩) 144 144 (seenL 144 P) ∧ P.Nodup ∧ (∀ z ∈ P, 0 ≤ z ∧ z < (N : Int)) ∧ fu + P.length = N ∧ TL = goT W H ac up (dx1, dy1) (dx2, dy2) t fu P n ∧ (okb = false → n = -1) ∧ (okb = true → (0 ≤ n ∧ n < (N : Int)) ∧ x = n % W ∧ y = n / W) ∧ Below gk W2 wr) (fun v _ _ => N - lenS v)
  case atStart => exact ⟨0, 0, N, none, [], 0, 0, 0, true, rfl, rfl, OwnI.none_ _ _ _, TB0.out, KN0.out, List.nodup_nil, (fun z hz => by simp at hz), by simp, HTL.out, (fun h => by cases h), (fun _ => ⟨⟨by omega, by omega⟩, by simp, by simp⟩), Below.refl _ _⟩
  case round =>
    clear TB0 KN0
    obtain ⟨n', c', fu, A', P, n, x, y, okb, rfl, rfl, hown, hT, hK, hnd, hin, hfu, hgo, hno, hyes, hbw⟩ := hrel
    have HO := Lib.hid hown; have TB := Lib.hid hT; have KN := Lib.hid hK; have HND := Lib.hid hnd; have HIN := Lib.hid hin; have HFU := Lib.hid hfu; have HGO := Lib.hid hgo; have HB := Lib.hid hbw
    have HPL := Lib.hid hown.len
    have HNB := Lib.hid (show n' ≤ N by have := hown.len; omega)
    have hsw := hbw.size
    have b0 := (hbw.cell (p := ⟨w.heap.size, 0, none⟩) (by simp; omega)).trans AL.out.1; have b1 := (hbw.cell (p := ⟨w.heap.size, 1, none⟩) (by simp; omega)).trans AL.out.2.1; have b2 := (hbw.cell (p := ⟨w.heap.size, 2, none⟩) (by simp; omega)).trans AL.out.2.2.1; have b3 := (hbw.cell (p := ⟨w.heap.size, 3, none⟩) (by simp; omega)).trans AL.out.2.2.2
    have o0 := (hbw.cell (p := ⟨w.heap.size + 1, 0, none⟩) (by simp; omega)).trans OL.out.1; have o1 := (hbw.cell (p := ⟨w.heap.size + 1, 1, none⟩) (by simp; omega)).trans OL.out.2.1; have d0 := (hbw.cell (p := ⟨w.heap.size + 1 + 1, 0, none⟩) (by simp; omega)).trans OL.out.2.2.1; have d1 := (hbw.cell (p := ⟨w.heap.size + 1 + 1, 1, none⟩) (by simp; omega)).trans OL.out.2.2.2
    have bl : w.heap.size < wr.heap.size := by omega
    have ol : w.heap.size + 1 < wr.heap.size := by omega
    have dl : w.heap.size + 1 + 1 < wr.heap.size := by omega
    have t0 := hT.c0; have t1' := hT.c1; have tl := hT.lt
    have HNO := Lib.hid hno; have HYES := Lib.hid hyes
    clear hown hT hK hnd hin hfu hgo hbw hno hyes
    cases okb with
    | false =>
      have HR := Lib.hid (HGO.out.trans (goT_stop (by have := HNO.out rfl; omega)))
      clear b0 b1 b2 b3 o0 o1 d0 d1 t0 t1'
      go_wp2
      go_ret
      exact ⟨_, n', c', rfl, by rw [HR.out]; exact HO.out.lower (by omega), B.out.trans (HB.out.mono hh0)⟩
    | true =>
      obtain ⟨⟨hn0, hn1⟩, hxe, hye⟩ := HYES.out rfl
      obtain ⟨j, rfl⟩ : ∃ j : Nat, n = (j : Int) := ⟨n.toNat, by omega⟩
      have hj : j < 144 := by omega
      have HXE := Lib.hid hxe; have HYE := Lib.hid hye
      have hxb := mod_bdA (W := W) (q := (j : Int)) ⟨hW1, hW2b⟩
      have hyb := div_bdA (W := W) (H := H) (q := (j : Int)) hW1 (by rw [HWH.out]; omega)
      rw [← hxe] at hxb
      rw [← hye] at hyb
      obtain ⟨x1, x2, x3⟩ := hxb
      obtain ⟨y1, y2⟩ := hyb
      have hmu := mul12 (x := y) (y := W) ⟨by omega, by omega⟩ ⟨by omega, by omega⟩
      have HNUM := Lib.hid (fun w' => number_gen x y W w' ⟨by omega, by omega⟩ ⟨by omega, by omega⟩)
      rw [show y * W + x = (j : Int) by rw [hxe, hye]; exact num_of W j] at HNUM
      have hj0 : (0 : Int) ≤ (j : Int) := by omega
      have hj144 : (j : Int) < 144 := by omega
      clear hxe hye hmu HNO HYES
      have k0 := KN.out.cell (seenL_at (P := P) hj)
      have HK0 := Lib.hid k0
      clear k0
      by_cases hmem : (j : Int) ∈ P
      · have HR := Lib.hid (HGO.out.trans (goT_stop (fun h => h.2 hmem)))
        go_wp2_with fail
        refine (HNUM.out _).mono ?_
        rintro e wv ⟨rfl, hb⟩
        replace b0 := cell_keep b0 bl hb
        replace b1 := cell_keep b1 bl hb
        replace b2 := cell_keep b2 bl hb
        replace b3 := cell_keep b3 bl hb
        replace o0 := cell_keep o0 ol hb
        replace o1 := cell_keep o1 ol hb
        replace d0 := cell_keep d0 dl hb
        replace d1 := cell_keep d1 dl hb
        replace bl := lt_keep bl hb; replace ol := lt_keep ol hb; replace dl := lt_keep dl hb
        replace t0 := cell_keep t0 tl hb; replace t1' := cell_keep t1' tl hb; replace tl := lt_keep tl hb
        replace TB := Lib.hid (TB.out.keep hb); replace KN := Lib.hid (KN.out.keep hb); replace HO := Lib.hid (HO.out.keep hb)
        replace HB := Lib.hid (HB.out.trans (hb.mono (by omega)))
        replace hsw := HB.out.size
        clear hb
        have k0 := KN.out.cell (seenL_at (P := P) hj)
        rw [decide_eq_true hmem] at k0
        clear b0 b1 b2 b3 o0 o1 d0 d1 t0 t1'
        go_wp2
        go_ret
        exact ⟨_, n', c', rfl, by rw [HR.out]; exact HO.out.lower (by omega), B.out.trans (HB.out.mono hh0)⟩
      · obtain ⟨fu2, hu1, hu2, hu3, hu4, hu5⟩ := goT_go (W := W) (H := H) (t := t) (ac := ac) (up := up) (s1 := (dx1, dy1)) (s2 := (dx2, dy2)) HND.out HIN.out HFU.out hj0 hn1 hmem
        have HU2 := Lib.hid hu2; have HU3 := Lib.hid (HGO.out.trans hu3); have HU4 := Lib.hid hu4; have HU5 := Lib.hid hu5
        clear hu1 hu2 hu3 hu4 hu5
        have HME := Lib.hid hmem
        clear hmem
        go_wp2_with fail
        refine (HNUM.out _).mono ?_
        rintro e wv ⟨rfl, hb⟩
        replace b0 := cell_keep b0 bl hb
        replace b1 := cell_keep b1 bl hb
        replace b2 := cell_keep b2 bl hb
        replace b3 := cell_keep b3 bl hb
        replace o0 := cell_keep o0 ol hb
        replace o1 := cell_keep o1 ol hb
        replace d0 := cell_keep d0 dl hb
        replace d1 := cell_keep d1 dl hb
        replace bl := lt_keep bl hb; replace ol := lt_keep ol hb; replace dl := lt_keep dl hb
        replace t0 := cell_keep t0 tl hb; replace t1' := cell_keep t1' tl hb; replace tl := lt_keep tl hb
        replace TB := Lib.hid (TB.out.keep hb); replace KN := Lib.hid (KN.out.keep hb); replace HO := Lib.hid (HO.out.keep hb)
        replace HB := Lib.hid (HB.out.trans (hb.mono (by omega)))
        replace hsw := HB.out.size
        clear hb
        have k0 := KN.out.cell (seenL_at (P := P) hj)
        rw [decide_eq_false HME.out] at k0
        go_wp2_with fail
        have kl := KN.out.lt
        refine (HNUM.out _).mono ?_
        rintro e wv ⟨rfl, hb⟩
        replace b0 := cell_keep b0 bl hb
        replace b1 := cell_keep b1 bl hb
        replace b2 := cell_keep b2 bl hb
        replace b3 := cell_keep b3 bl hb
        replace o0 := cell_keep o0 ol hb
        replace o1 := cell_keep o1 ol hb
        replace d0 := cell_keep d0 dl hb
        replace d1 := cell_keep d1 dl hb
        replace bl := lt_keep bl hb; replace ol := lt_keep ol hb; replace dl := lt_keep dl hb
        replace t0 := cell_keep t0 tl hb; replace t1' := cell_keep t1' tl hb; replace tl := lt_keep tl hb
        replace TB := Lib.hid (TB.out.keep hb); replace KN := Lib.hid (KN.out.keep hb); replace HO := Lib.hid (HO.out.keep hb)
        replace HB := Lib.hid (HB.out.trans (hb.mono (by omega)))
        replace hsw := HB.out.size
        replace k0 := cell_keep k0 kl hb
        clear hb
        have kf := KN.out.frozen j
        obtain ⟨st, sg⟩ := KN.out.stored j true
        rw [seenL_set (i := j)] at st
        obtain ⟨W6, hW6⟩ : ∃ W6, W6 = wv.setCell ⟨gk, j, none⟩ (.bool true) := ⟨_, rfl⟩
        rw [← hW6] at st sg
        have HKO := Lib.hid (show W2.heap.size ≤ W2.heap.size from Nat.le_refl _)
        go_upto_region 6 with fail
        rw [← hW6]
        replace HO := Lib.hid (HO.out.other sg (own_ne HO.out (by omega)))
        replace KN := Lib.hid st
        replace TB := Lib.hid (TB.out.grown sg (by simp; omega))
        replace HB := Lib.hid (HB.out.grown sg (by omega) (fun g h => by injection h with h; omega))
        replace b0 := sg.cell b0 (by simp; omega)
        replace b1 := sg.cell b1 (by simp; omega)
        replace b2 := sg.cell b2 (by simp; omega)
        replace b3 := sg.cell b3 (by simp; omega)
        replace o0 := sg.cell o0 (by simp; omega)
        replace o1 := sg.cell o1 (by simp; omega)
        replace d0 := sg.cell d0 (by simp; omega)
        replace d1 := sg.cell d1 (by simp; omega)
        replace bl := Nat.lt_of_lt_of_le bl sg.size; replace ol := Nat.lt_of_lt_of_le ol sg.size; replace dl := Nat.lt_of_lt_of_le dl sg.size
        replace hsw := HB.out.size
        clear t0 t1' tl
        clear sg st k0 kf hW6
        have t0 := TB.out.c0; have t1' := TB.out.c1; have tl := TB.out.lt
        go_wp2_with fail
        refine (HNUM.out _).mono ?_
        rintro e wv ⟨rfl, hb⟩
        replace b0 := cell_keep b0 bl hb
        replace b1 := cell_keep b1 bl hb
        replace b2 := cell_keep b2 bl hb
        replace b3 := cell_keep b3 bl hb
        replace o0 := cell_keep o0 ol hb
        replace o1 := cell_keep o1 ol hb
        replace d0 := cell_keep d0 dl hb
        replace d1 := cell_keep d1 dl hb
        replace bl := lt_keep bl hb; replace ol := lt_keep ol hb; replace dl := lt_keep dl hb
        replace t0 := cell_keep t0 tl hb; replace t1' := cell_keep t1' tl hb; replace tl := lt_keep tl hb
        replace TB := Lib.hid (TB.out.keep hb); replace KN := Lib.hid (KN.out.keep hb); replace HO := Lib.hid (HO.out.keep hb)
        replace HB := Lib.hid (HB.out.trans (hb.mono (by omega)))
        replace hsw := HB.out.size
        clear hb
        have hn9 : n' ≤ 1000000 := by have := HNB.out; omega
        clear t0 t1' tl
        go_upto_region 7 with (at_builtin; refine wpList_app1 rfl (.tmp 30) (.tmp 35) 33 3 rfl i0 Try.underlying33 HI.out HZ0.out HZ1.out HZ2.out W2.heap.size A' n' c' P (j : Int) rfl HO.out rfl hn9 hsw ?_; intro A3 c3 w5 hown3 hb5; clear HO; have HO := Lib.hid hown3; replace TB := Lib.hid (TB.out.keepLo hb5 (by omega)); replace KN := Lib.hid (KN.out.keepLo hb5 (by omega)); replace HB := Lib.hid (HB.out.trans (hb5.mono (by omega))); replace b0 := (hb5.cell (p := ⟨w.heap.size, 0, none⟩) (by simp; omega)).trans b0; replace b1 := (hb5.cell (p := ⟨w.heap.size, 1, none⟩) (by simp; omega)).trans b1; replace b2 := (hb5.cell (p := ⟨w.heap.size, 2, none⟩) (by simp; omega)).trans b2; replace b3 := (hb5.cell (p := ⟨w.heap.size, 3, none⟩) (by simp; omega)).trans b3; replace o0 := (hb5.cell (p := ⟨w.heap.size + 1, 0, none⟩) (by simp; omega)).trans o0; replace o1 := (hb5.cell (p := ⟨w.heap.size + 1, 1, none⟩) (by simp; omega)).trans o1; replace d0 := (hb5.cell (p := ⟨w.heap.size + 1 + 1, 0, none⟩) (by simp; omega)).trans d0; replace d1 := (hb5.cell (p := ⟨w.heap.size + 1 + 1, 1, none⟩) (by simp; omega)).trans d1; replace hsw := HB.out.size; replace bl := Nat.lt_of_lt_of_le bl hb5.size; replace ol := Nat.lt_of_lt_of_le ol hb5.size; replace dl := Nat.lt_of_lt_of_le dl hb5.size; clear hown3 hb5)
        have hwl : w.heap.size ≤ W2.heap.size := by omega
        have HNXT := Lib.hid (show nextT W H ac up (dx1, dy1) (dx2, dy2) t (P ++ [(j : Int)]) j = if ((n' : Int) + 1) % t = 0 then stepA W H ac up j dx2 dy2 else stepA W H ac up j dx1 dy1 by rw [nextT, List.length_append, HPL.out]; rfl)
        have HL2 := Lib.hid (show fu2 + (P ++ [(j : Int)]).length = N from HU2.out)
        have HN2 := Lib.hid (show n' + 1 ≤ N by have := HU2.out; rw [List.length_append, HPL.out, List.length_singleton] at this; omega)
        obtain ⟨S, hS⟩ : ∃ S, nextT W H ac up (dx1, dy1) (dx2, dy2) t (P ++ [(j : Int)]) j = S := ⟨_, rfl⟩
        have HU3' := HU3
        rw [hS] at HU3' HNXT
        obtain ⟨M, hM⟩ : ∃ M, ((n' : Int) + 1) % t = M := ⟨_, rfl⟩
        have htm : ((n' : Int) + 1).tmod t = M := by rw [← hM]; exact Int.tmod_eq_emod_of_nonneg (by omega)
        rw [hM] at HNXT
        clear HU3 hS
        by_cases hm : M = 0
        · skip
          subst hm
          have HE := Lib.hid (show S = stepA W H ac up j dx2 dy2 from HNXT.out.trans (if_pos rfl))
          go_upto_region 10 with fail
          obtain ⟨W7, hW7⟩ : ∃ W7, W7 = w5.alloc (.cells #[.int .i64 dx2, .int .i64 dy2] 59) := ⟨_, rfl⟩
          obtain ⟨gst, hgst⟩ : ∃ gst, gst = w5.heap.size := ⟨_, rfl⟩
          have hb : Below w5.heap.size w5 W7 := by rw [hW7]; exact below_new (Below.refl _ _) _
          have s0 : W7.cell? ⟨gst, 0, none⟩ = some (.int .i64 dx2) := by rw [hW7, hgst]; go_simp
          have s1 : W7.cell? ⟨gst, 1, none⟩ = some (.int .i64 dy2) := by rw [hW7, hgst]; go_simp
          rw [← hW7, ← hgst]
          clear hW7 hgst
          replace b0 := cell_keep b0 bl hb
          replace b1 := cell_keep b1 bl hb
          replace b2 := cell_keep b2 bl hb
          replace b3 := cell_keep b3 bl hb
          replace o0 := cell_keep o0 ol hb
          replace o1 := cell_keep o1 ol hb
          replace d0 := cell_keep d0 dl hb
          replace d1 := cell_keep d1 dl hb
          replace bl := lt_keep bl hb; replace ol := lt_keep ol hb; replace dl := lt_keep dl hb
          replace TB := Lib.hid (TB.out.keep hb); replace KN := Lib.hid (KN.out.keep hb); replace HO := Lib.hid (HO.out.keep hb)
          replace HB := Lib.hid (HB.out.trans (hb.mono (by omega)))
          replace hsw := HB.out.size
          clear hb
          have t0 := TB.out.c0; have t1' := TB.out.c1; have tl := TB.out.lt
          obtain ⟨XX, hXX⟩ : ∃ XX, colA ac W (x + dx2) = XX := ⟨_, rfl⟩
          obtain ⟨YY, hYY⟩ : ∃ YY, colA up H (y + dy2) = YY := ⟨_, rfl⟩
          have HAF := Lib.hid (fun w' => after_any W H ac up x y dx2 dy2 w' HG.out ⟨by omega, by omega⟩ ⟨by omega, by omega⟩ (by have := HB2.out; omega) (by have := HB2.out; omega))
          have HNO := Lib.hid (stepA_no (W := W) (H := H) (q := (j : Int)) (x := dx2) (y := dy2) (ac := ac) (up := up)); have HBK := Lib.hid (back_of (W := W) (H := H) (n := (j : Int)) (x := dx2) (y := dy2) (ac := ac) (up := up)); have HSY := Lib.hid (stepA_yes (W := W) (H := H) (q := (j : Int)) (x := dx2) (y := dy2) (ac := ac) (up := up))
          rw [hXX, hYY] at HAF
          rw [← HXE.out, ← HYE.out, hXX, hYY, ← HE.out] at HNO HBK HSY
          clear hXX hYY
          go_wp2_with fail
          refine (HAF.out _).mono ?_
          rintro e w8 ⟨rfl, hb⟩
          replace b0 := cell_keep b0 bl hb
          replace b1 := cell_keep b1 bl hb
          replace b2 := cell_keep b2 bl hb
          replace b3 := cell_keep b3 bl hb
          replace o0 := cell_keep o0 ol hb
          replace o1 := cell_keep o1 ol hb
          replace d0 := cell_keep d0 dl hb
          replace d1 := cell_keep d1 dl hb
          replace bl := lt_keep bl hb; replace ol := lt_keep ol hb; replace dl := lt_keep dl hb
          replace TB := Lib.hid (TB.out.keep hb); replace KN := Lib.hid (KN.out.keep hb); replace HO := Lib.hid (HO.out.keep hb)
          replace HB := Lib.hid (HB.out.trans (hb.mono (by omega)))
          replace hsw := HB.out.size
          replace t0 := cell_keep t0 tl hb; replace t1' := cell_keep t1' tl hb
          clear hb s0 s1 tl b0 b1 b2 b3 o0 o1 d0 d1
          have q0 : w8.frozen? ⟨gat, 0, none⟩ = false := frozen_of_row w8 gat 0 _ _ TB.out
          have q1 : w8.frozen? ⟨gat, 1, none⟩ = false := frozen_of_row w8 gat 1 _ _ TB.out
          obtain ⟨ib, hib⟩ : ∃ ib, inA W H XX YY = ib := ⟨_, rfl⟩
          rw [hib] at HNO HBK HSY ⊢
          have HIB := Lib.hid hib
          clear hib
          go_wp2
          go_roundw
          case rel =>
            obtain ⟨W9, hW9⟩ : ∃ W9, W9 = (w8.setCell ⟨gat, 0, none⟩ (.int .i64 XX)).setCell ⟨gat, 1, none⟩ (.int .i64 YY) := ⟨_, rfl⟩
            have hgr : w8.grownBy W9 (some gat) := by rw [hW9]; exact grown_next (grownSet _ ⟨gat, 0, none⟩ _) (grownSet _ ⟨gat, 1, none⟩ _)
            rw [← hW9]
            exact ⟨n' + 1, c3, fu2, A3, P ++ [(j : Int)], S, XX, YY, ib, rfl, rfl, HO.out.other hgr (own_ne HO.out (by omega)), by rw [hW9]; exact TB.out.set _ _, KN.out.other hgr (fun a ha => by injection ha with ha; rw [← ha]; simp; omega), HU4.out, HU5.out, HL2.out, HU3'.out, (fun h => HNO.out h), (fun h => by
              have h2 := HIB.out; rw [h] at h2
              have h3 := numA h2
              have h4 := HWH.out
              have h5 := HBK.out h
              have h6 := HSY.out h
              exact ⟨⟨by omega, by omega⟩, h5.1.symm, h5.2.symm⟩), HB.out.grown hgr (by omega) (fun g h => by injection h with h; omega)⟩
          case measure => have := HN2.out; simp [lenS]; omega
        · skip
          have hmb : (M == 0) = false := by simpa using hm
          have HE := Lib.hid (show S = stepA W H ac up j dx1 dy1 from HNXT.out.trans (if_neg hm))
          go_upto_region 10 with fail
          obtain ⟨W7, hW7⟩ : ∃ W7, W7 = w5.alloc (.cells #[.int .i64 dx1, .int .i64 dy1] 59) := ⟨_, rfl⟩
          obtain ⟨gst, hgst⟩ : ∃ gst, gst = w5.heap.size := ⟨_, rfl⟩
          have hb : Below w5.heap.size w5 W7 := by rw [hW7]; exact below_new (Below.refl _ _) _
          have s0 : W7.cell? ⟨gst, 0, none⟩ = some (.int .i64 dx1) := by rw [hW7, hgst]; go_simp
          have s1 : W7.cell? ⟨gst, 1, none⟩ = some (.int .i64 dy1) := by rw [hW7, hgst]; go_simp
          rw [← hW7, ← hgst]
          clear hW7 hgst
          replace b0 := cell_keep b0 bl hb
          replace b1 := cell_keep b1 bl hb
          replace b2 := cell_keep b2 bl hb
          replace b3 := cell_keep b3 bl hb
          replace o0 := cell_keep o0 ol hb
          replace o1 := cell_keep o1 ol hb
          replace d0 := cell_keep d0 dl hb
          replace d1 := cell_keep d1 dl hb
          replace bl := lt_keep bl hb; replace ol := lt_keep ol hb; replace dl := lt_keep dl hb
          replace TB := Lib.hid (TB.out.keep hb); replace KN := Lib.hid (KN.out.keep hb); replace HO := Lib.hid (HO.out.keep hb)
          replace HB := Lib.hid (HB.out.trans (hb.mono (by omega)))
          replace hsw := HB.out.size
          clear hb
          have t0 := TB.out.c0; have t1' := TB.out.c1; have tl := TB.out.lt
          obtain ⟨XX, hXX⟩ : ∃ XX, colA ac W (x + dx1) = XX := ⟨_, rfl⟩
          obtain ⟨YY, hYY⟩ : ∃ YY, colA up H (y + dy1) = YY := ⟨_, rfl⟩
          have HAF := Lib.hid (fun w' => after_any W H ac up x y dx1 dy1 w' HG.out ⟨by omega, by omega⟩ ⟨by omega, by omega⟩ (by have := HB1.out; omega) (by have := HB1.out; omega))
          have HNO := Lib.hid (stepA_no (W := W) (H := H) (q := (j : Int)) (x := dx1) (y := dy1) (ac := ac) (up := up)); have HBK := Lib.hid (back_of (W := W) (H := H) (n := (j : Int)) (x := dx1) (y := dy1) (ac := ac) (up := up)); have HSY := Lib.hid (stepA_yes (W := W) (H := H) (q := (j : Int)) (x := dx1) (y := dy1) (ac := ac) (up := up))
          rw [hXX, hYY] at HAF
          rw [← HXE.out, ← HYE.out, hXX, hYY, ← HE.out] at HNO HBK HSY
          clear hXX hYY
          go_wp2_with fail
          refine (HAF.out _).mono ?_
          rintro e w8 ⟨rfl, hb⟩
          replace b0 := cell_keep b0 bl hb
          replace b1 := cell_keep b1 bl hb
          replace b2 := cell_keep b2 bl hb
          replace b3 := cell_keep b3 bl hb
          replace o0 := cell_keep o0 ol hb
          replace o1 := cell_keep o1 ol hb
          replace d0 := cell_keep d0 dl hb
          replace d1 := cell_keep d1 dl hb
          replace bl := lt_keep bl hb; replace ol := lt_keep ol hb; replace dl := lt_keep dl hb
          replace TB := Lib.hid (TB.out.keep hb); replace KN := Lib.hid (KN.out.keep hb); replace HO := Lib.hid (HO.out.keep hb)
          replace HB := Lib.hid (HB.out.trans (hb.mono (by omega)))
          replace hsw := HB.out.size
          replace t0 := cell_keep t0 tl hb; replace t1' := cell_keep t1' tl hb
          clear hb s0 s1 tl b0 b1 b2 b3 o0 o1 d0 d1
          have q0 : w8.frozen? ⟨gat, 0, none⟩ = false := frozen_of_row w8 gat 0 _ _ TB.out
          have q1 : w8.frozen? ⟨gat, 1, none⟩ = false := frozen_of_row w8 gat 1 _ _ TB.out
          obtain ⟨ib, hib⟩ : ∃ ib, inA W H XX YY = ib := ⟨_, rfl⟩
          rw [hib] at HNO HBK HSY ⊢
          have HIB := Lib.hid hib
          clear hib
          go_wp2
          go_roundw
          case rel =>
            obtain ⟨W9, hW9⟩ : ∃ W9, W9 = (w8.setCell ⟨gat, 0, none⟩ (.int .i64 XX)).setCell ⟨gat, 1, none⟩ (.int .i64 YY) := ⟨_, rfl⟩
            have hgr : w8.grownBy W9 (some gat) := by rw [hW9]; exact grown_next (grownSet _ ⟨gat, 0, none⟩ _) (grownSet _ ⟨gat, 1, none⟩ _)
            rw [← hW9]
            exact ⟨n' + 1, c3, fu2, A3, P ++ [(j : Int)], S, XX, YY, ib, rfl, rfl, HO.out.other hgr (own_ne HO.out (by omega)), by rw [hW9]; exact TB.out.set _ _, KN.out.other hgr (fun a ha => by injection ha with ha; rw [← ha]; simp; omega), HU4.out, HU5.out, HL2.out, HU3'.out, (fun h => HNO.out h), (fun h => by
              have h2 := HIB.out; rw [h] at h2
              have h3 := numA h2
              have h4 := HWH.out
              have h5 := HBK.out h
              have h6 := HSY.out h
              exact ⟨⟨by omega, by omega⟩, h5.1.symm, h5.2.symm⟩), HB.out.grown hgr (by omega) (fun g h => by injection h with h; omega)⟩
          case measure => have := HN2.out; simp [lenS]; omega

end Go.Proofs.Ytaliknhfcdmohaa
