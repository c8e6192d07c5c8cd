/-
  Contracts: the parts of a board, in the program.
  Contracts: two colours by parts, in the program.
  A row of slices as an answer: what keeps it, how it is compared, marked, held.
  Contracts: rows of slices compared, marked, held.
  Contracts: SidesOfParts, the model.
-/
import Derived.Test.YtomfgjbicpeggaaGreatBunHSidesOfParts7
import Derived.Test.YtomfgjbicpeggaaGreatBunHSidesOfParts8
import Derived.Test.YtomfgjbicpeggaaGreatBunHSidesOfParts6
import Derived.Test.YtomfgjbicpeggaaGreatBunHSidesOfParts1
import Derived.Deep.RegionHeld3
namespace Go.Proofs.YtomfgjbicpeggaaGreat
open Go.RowKit

theorem zero_bool : ∀ w, (zeroValue 4).run Tryz.prog w = .ok (.bool false) w := fun _ => by kernel_rfl
theorem take_contains {p : List Int} {j : Nat} {y x : Int} (hy : p[j]? = some y) : (p.take (j + 1)).contains x = (if x = y then true else (p.take j).contains x) := by
  rw [List.take_add_one, hy]
  by_cases e : x = y
  · subst e; simp
  · simp [e]

set_option maxRecDepth 100000 in
set_option maxHeartbeats 4000000 in
theorem partsOf_any (W H : Int) (A : Option Addr) (n c : Nat) (xs : List Int) (a b : Int) (N lo0 mo : Nat) (w : World) (ha : Rd w A n xs) (hF : OnFacts W H xs a b N) (hom : OnMap w lo0 mo (cellsL W H xs) (leapsL W H xs a b)) :
    Calls Tryz.prog 22 #[brd W H A n c, .map (some mo)] w fun e w' => ∃ A' n' c' top, e = .returned (.slice A' n' c') ∧ PartsAt w' w.heap.size top A' n' c' (partsL W H xs a b) ∧ Below w.heap.size w w' := by
  have HF := Lib.hid hF
  have n64 := hF.n.2
  have HOM := Lib.hid hom
  obtain ⟨hW, hH, _, _⟩ := goodB_iff.1 hF.g
  have HN := Lib.hid (cells_le hW hH)
  have HG := Lib.hid hF.g
  clear hW hH hF hom
  obtain ⟨W2, hW2⟩ : ∃ W2, W2 = (w.alloc (.cells #[.int .i64 W, .int .i64 H, .slice A n c] 31)).alloc (.map #[] 0) := ⟨_, rfl⟩
  have a0 : W2.cell? ⟨w.heap.size, 0, none⟩ = some (.int .i64 W) := by rw [hW2]; go_simp
  have a1 : W2.cell? ⟨w.heap.size, 1, none⟩ = some (.int .i64 H) := by rw [hW2]; go_simp
  have a2 : W2.cell? ⟨w.heap.size, 2, none⟩ = some (.slice A n c) := by rw [hW2]; go_simp
  have hsz : W2.heap.size = w.heap.size + 2 := by rw [hW2]; simp
  have B := Lib.hid (show Below w.heap.size w W2 by rw [hW2]; exact below_new (below_new (Below.refl _ _) _) _)
  have ga : w.heap.size < W2.heap.size := by omega
  have hmp : MapI Tryz.prog 3 W2 (w.heap.size + 1) 0 (.bool false) (fun _ => .bool false) := by
    rw [hW2]
    have := MapI.made Tryz.prog 3 (w.alloc (.cells #[.int .i64 W, .int .i64 H, .slice A n c] 31)) (.bool false)
    simpa using this
  have MP := Lib.hid hmp
  have hmm := @run_makeMap Tryz.prog
  clear hmp
  go_enter Tryz.func22, Tryz.ntmps22
  go_wp2_with fail
  rw [← hW2]
  obtain ⟨mb, hmb⟩ : ∃ mb, mb = w.heap.size + 1 := ⟨_, rfl⟩
  rw [← hmb] at MP ⊢
  have hmb1 : w.heap.size + 1 ≤ mb := by omega
  have hmb2 : mb < W2.heap.size := by omega
  clear hW2 hmm hmb
  refine (cellsThere_any W H A n c xs _ (ha.keep B.out) HG.out).mono ?_
  rintro e ws ⟨A1, n1, c1, rfl, hst, hb⟩
  replace a0 := cell_keep a0 ga hb; replace a1 := cell_keep a1 ga hb; replace a2 := cell_keep a2 ga hb; replace ga := lt_keep ga hb
  replace MP := Lib.hid (MP.out.keep hb)
  have hs1 := hb.size
  have hms : mb < ws.heap.size := lt_keep hmb2 hb
  replace B := Lib.hid (below_next B.out hb)
  have hBs := B.out.size
  have ST := Lib.hid hst.rd
  have SL := Lib.hid hst.len
  have n8 : n1 ≤ 64 := by have := cellsTo_len (W := W) (H := H) (hs := xs) (W * H).toNat; have := hst.len; have := HN.out; unfold cellsL at *; omega
  have hA1 : Hid (∀ y, A1 = some y → y.block ≠ mb) := Lib.hid (fun y hy => by
    subst hy
    exact map_apart hst MP.out)
  have n9 := hst.rd.2.1
  have hPlen : Hid (∀ x, (partL W H xs a b x).length ≤ 64) := Lib.hid (fun x => by
    have := selTo_len (nearB (distL W H xs a b x) 64) (W * H).toNat; have := HN.out; unfold partL; omega)
  clear hst hb hmb2
  go_wp2
  go_loopw [5, 16] (fun v i wr => ∃ (k n' c' top m : Nat) (A' : Option Addr) (f : Int → Value), k ≤ n1 ∧ i = .int .i64 k ∧ v = .slice A' n' c' ∧ PartsAt wr ws.heap.size top A' n' c' (partsTo W H xs a b k) ∧ top ≤ wr.heap.size ∧ m ≤ 64 * k ∧ MapI Tryz.prog 3 wr mb m (.bool false) f ∧ (∀ x, f x = .bool (inParts (partsTo W H xs a b k) x)) ∧ ws.grownBy wr (some mb)) (fun _ i _ => n1 - (intOf i).toNat)
  case atStart => exact ⟨0, 0, 0, 0, 0, none, _, by omega, rfl, rfl, PartsAt.none_ _ _ _, by omega, by omega, MP.out, fun x => rfl, grown_refl _ _⟩
  case round =>
    clear MP
    obtain ⟨k, n', c', top, m, A', f, hk, rfl, rfl, hpa, htop, hm, hmap, hf, hgw⟩ := hrel
    have hBw : Below w.heap.size w wr := B.out.trans (below_of_grown hgw hBs (fun g h => by injection h with h; omega))
    have hsw := hgw.size
    have hnp : n' ≤ 64 := by have := partsTo_len W H xs a b k; have := hpa.len; omega
    have PA := Lib.hid hpa; have MA := Lib.hid hmap; have FF := Lib.hid hf
    by_cases hlt : k < n1
    · obtain ⟨bb, oo, x, rfl, hg1, hx, x0⟩ := ST.out.at_ hlt
      have hbm := hA1.out _ rfl
      simp only at hbm
      have hin := cellsL_mem.1 (List.mem_of_getElem? hx)
      have hxr := (hasB_iff.1 hin).1
      rw [HF.out.wh] at hxr
      obtain ⟨xn, rfl⟩ : ∃ xn : Nat, x = (xn : Int) := ⟨x.toNat, by omega⟩
      have hxn : xn < N := by omega
      have HX := Lib.hid hx; have HXI := Lib.hid hin
      replace x0 := hgw.cell x0 (by simp; omega)
      have HBW := Lib.hid hBw; have HGW := Lib.hid hgw
      have hlk := fun w' (h : MapI Tryz.prog 3 w' mb m (.bool false) f) => MapI.lookup (t := 70) (e := 4) h Tryz.underlying3 Tryz.underlying70 (zero_bool w') (wf_small (x := (xn : Int)) (by omega))
      have hl0 := hlk wr hmap
      rw [hf] at hl0
      clear hx hin hxr hgw hBw hpa hmap hf hlk
      cases hip : inParts (partsTo W H xs a b k) (xn : Int) with
      | true =>
        rw [hip] at hl0
        have HIP := Lib.hid hip
        clear hip
        go_wp2
        go_roundw
        case rel =>
          have e := partsTo_yes HX.out HIP.out
          exact ⟨k + 1, n', c', top, m, A', f, by omega, by go_num, rfl, by rw [e]; exact PA.out, htop, by omega, MA.out, by rw [e]; exact FF.out, HGW.out⟩
        case measure => simp [intOf]; omega
      | false =>
        rw [hip] at hl0
        have HIP := Lib.hid hip
        clear hip
        go_wp2_with fail
        clear hl0
        refine (distancesFrom_any lo0 mo (cellsL W H xs) (leapsL W H xs a b) xn _ (HOM.out.keep HBW.out) (by omega) (cellsL_mem.2 HXI.out) (cells_in HF.out) adj_in).mono ?_
        rintro e wu ⟨rfl, hb⟩
        have h64 := far_len64 HF.out HXI.out
        have hbd := far_bd HF.out HXI.out
        have hpl : selTo (nearB (farL (leapsL W H xs a b) 64 (xn : Int)) 64) 64 = partL W H xs a b (xn : Int) := by
          rw [partL, show (W * H).toNat = N by have := HF.out.wh; omega, far64 HF.out HXI.out]
          rw [selTo_congr 64 (g := nearB (distL W H xs a b (xn : Int)) 64) (fun i _ => by rw [nearB, getD_pad]; rfl)]
          exact selTo_stop (fun i hi => by rw [nearB, List.getD_eq_getElem?_getD, List.getElem?_eq_none (by rw [dist_len HF.out HXI.out]; exact hi)]; rfl) n64
        replace PA := Lib.hid (PA.out.keep hb); replace MA := Lib.hid (MA.out.keep hb)
        have htu := hb.size
        replace HGW := Lib.hid (grown_next HGW.out (grown_of_below hb (some mb)))
        clear hb
        go_wp2_with fail
        refine (cellsWithin_any _ h64 hbd 64 _).mono ?_
        rintro e wv ⟨A9, n9', c9, rfl, own, hb⟩
        rw [hpl] at own
        have hpn : Hid (∀ y, A9 = some y → top ≤ y.block ∧ y.block < wv.heap.size) := Lib.hid (fun y hy => by
          rcases own.form with ⟨h, _⟩ | ⟨g9, h, h2, h3, _⟩
          · rw [h] at hy; cases hy
          · rw [h] at hy; injection hy with hy; rw [← hy]; exact ⟨by show top ≤ g9; omega, h3⟩)
        replace PA := Lib.hid (PA.out.keep hb); replace MA := Lib.hid (MA.out.keep hb)
        have htv := hb.size
        replace HGW := Lib.hid (grown_next HGW.out (grown_of_below hb (some mb)))
        have OWN := Lib.hid (own.lower (show ws.heap.size ≤ wu.heap.size by omega))
        have PRD := Lib.hid own.rd
        have hp64 : n9' ≤ 64 := by have := hPlen.out (xn : Int); have := own.len; omega
        have hp9 := own.rd.2.1
        have hAm : Hid (∀ y, A9 = some y → y.block ≠ mb) := Lib.hid (fun y hy => by subst hy; exact map_apart own MA.out)
        have hbig : top ≤ wv.heap.size := by omega
        obtain ⟨p, hp⟩ : ∃ p, p = partL W H xs a b (xn : Int) := ⟨_, rfl⟩
        rw [← hp] at OWN PRD
        have HP := Lib.hid hp
        clear hb own hpl hbd h64 hp x0
        go_wp2
        go_loopw [29] (fun i wr => ∃ (j m2 : Nat) (f2 : Int → Value), j ≤ n9' ∧ i = .int .i64 j ∧ m2 ≤ 64 * k + j ∧ MapI Tryz.prog 3 wr mb m2 (.bool false) f2 ∧ (∀ x, f2 x = .bool (inParts (partsTo W H xs a b k) x || (p.take j).contains x)) ∧ wv.grownBy wr (some mb)) (fun i _ => n9' - (intOf i).toNat)
        case atStart => exact ⟨0, m, f, by omega, rfl, by omega, MA.out, fun x => by rw [FF.out x]; simp, grown_refl _ _⟩
        case round =>
          obtain ⟨j, m2, f2, hj, rfl, hm2, hmap, hf, hgx⟩ := hrel
          have hsx := hgx.size
          by_cases hjl : j < n9'
          · obtain ⟨b9, o9, y, rfl, hg9, hy, y0⟩ := PRD.out.at_ hjl
            have hbm9 := hAm.out _ rfl
            simp only at hbm9
            replace y0 := hgx.cell y0 (by simp; omega)
            have hyr : 0 ≤ y ∧ y ≤ 64 := by
              have hm := List.mem_of_getElem? hy
              rw [HP.out, partL] at hm
              obtain ⟨i, hi, _, e⟩ := selTo_mem.1 hm
              have := HN.out; omega
            have HY := Lib.hid hy; have MB := Lib.hid hmap; have F2 := Lib.hid hf; have HGX := Lib.hid hgx
            have HYR := Lib.hid hyr
            clear hy hmap hf hgx hyr
            go_wp2_with (at_mapUpdate; refine wpList_update rfl (.tmp 33) (.tmp 34) (.const (.bool true)) rfl Tryz.underlying3 Tryz.underlying70 rfl MB.out (by omega) y (.bool true) rfl rfl (wf_small HYR.out) ?_; intro w5 hm5 hg5)
            have M5 := Lib.hid hm5; have G5 := Lib.hid (grown_next HGX.out hg5)
            clear hm5 hg5
            go_wp2
            go_roundw
            case rel => exact ⟨j + 1, m2 + 1, _, by omega, by go_num, by omega, M5.out, fun x => by
              show (if x = y then Value.bool true else f2 x) = _
              rw [take_contains HY.out, F2.out x]
              by_cases e : x = y
              · rw [if_pos e, if_pos e]; simp
              · rw [if_neg e, if_neg e], G5.out⟩
            case measure => simp [intOf]; omega
          · obtain rfl : j = n9' := by omega
            have PA8 := Lib.hid (PA.out.maps MA.out hgx)
            have OWN8 := Lib.hid (OWN.out.other hgx (fun y hy => by have := hAm.out y hy; simpa using this))
            have MB := Lib.hid hmap; have F2 := Lib.hid hf
            have HG8 := Lib.hid (grown_next HGW.out hgx)
            have hpt : p.take j = p := List.take_of_length_le (by have := OWN.out.len; omega)
            have HPT := Lib.hid hpt
            have hpn2 : Hid (∀ y, A9 = some y → top ≤ y.block) := Lib.hid (fun y hy => (hpn.out y hy).1)
            have htx : top ≤ wr.heap.size := by omega
            have hlo : ws.heap.size ≤ wr.heap.size := by omega
            clear hmap hf hgx hpt
            go_wp2_with (at_builtin; refine wpList_appS rfl (.tmp 36) (.tmp 38) rfl ws.heap.size top A' n' c' (partsTo W H xs a b k) A9 j c9 p rfl PA8.out OWN8.out hpn2.out htx rfl (by omega) hlo ?_; intro A7 c7 w7 hpa7 hb7 kB kM kI)
            have PA7 := Lib.hid hpa7
            have M7 := Lib.hid (kM _ _ _ _ _ _ MB.out)
            have HG7 := Lib.hid (grown_below HG8.out hb7)
            have hs7 := hb7.size
            clear hpa7 hb7 kB kM kI
            go_wp2
            go_roundw
            case rel =>
              have e := partsTo_no HX.out HIP.out
              rw [← HP.out] at e
              exact ⟨k + 1, n' + 1, c7, _, m2, A7, f2, by omega, by go_num, rfl, by rw [e]; exact PA7.out, hs7, by omega, M7.out, fun x => by rw [F2.out x, HPT.out, e, inParts_app], HG7.out⟩
            case measure => simp [intOf]; omega
    · obtain rfl : k = n1 := by omega
      have eP : partsTo W H xs a b k = partsL W H xs a b := by rw [partsTo, List.take_of_length_le (by have := SL.out; omega)]; rfl
      rw [eP] at PA
      have HBW := Lib.hid hBw
      clear hgw hBw hpa hmap hf MA FF
      go_wp2
      go_ret
      exact ⟨_, _, _, _, rfl, PA.out.lower (by omega), HBW.out⟩

end Go.Proofs.YtomfgjbicpeggaaGreat

namespace Go.Proofs.YtomfgjbicpeggaaGreat
open Go.RowKit Go.Shelf
attribute [local go_sem] Oper.semAt_some

def fTwo (W H : Int) (xs : List Int) (a b : Int) (x : Int) : Nat := ((twoL W H xs a b).getD x.toNat (-1)).toNat

theorem PartsAt.at_ {w : World} {lo top : Nat} {A : Option Addr} {n c k : Nat} {ps : List (List Int)} (h : PartsAt w lo top A n c ps) (hk : k < n) :
    ∃ g A9 n9 c9 p, A = some ⟨g, 0, none⟩ ∧ lo ≤ g ∧ g < w.heap.size ∧ ps[k]? = some p ∧ w.cell? ⟨g, k, none⟩ = some (.slice A9 n9 c9) ∧ OwnI 3 w lo A9 n9 c9 p := by
  obtain ⟨vs, h1, h2, h3, _, _⟩ := h
  obtain ⟨g, rfl, hg1, hg2⟩ := h1.some_ hk
  have hl := h1.len
  obtain ⟨v, hv⟩ : ∃ v, vs[k]? = some v := ⟨_, List.getElem?_eq_getElem (show k < vs.length by omega)⟩
  obtain ⟨p, hp⟩ : ∃ p, ps[k]? = some p := ⟨_, List.getElem?_eq_getElem (show k < ps.length by omega)⟩
  have hc := h1.cell (k := 1) (j := 0) (fun _ => rfl) hv rfl
  rw [Nat.mul_one, Nat.add_zero] at hc
  exact ⟨g, _, _, _, _, rfl, hg1, hg2, hp, hc, h3 k _ _ hv hp⟩

set_option maxRecDepth 100000 in
theorem dist_lay {w : World} {L : List Int} (hL : L.length = 64) {old : Array Value} (ho : old.size = 64) :
    (Instr.storeAt 67 (.pointer (some ⟨w.heap.size, 0, none⟩)) (.agg (L.map (Value.int .i64)).toArray)).run Tryz.prog (w.alloc (.cells old 67)) = .ok () (w.alloc (.cells (L.map (Value.int .i64)).toArray 67)) :=
  run_storeAt_new _ _ _ _ (by rw [infoDs]; simp [hL]) (by simp [hL, ho]) (all_oneCell_toArray (fun v hv => by obtain ⟨i, _, rfl⟩ := List.mem_map.1 hv; rfl))

set_option maxRecDepth 100000 in
set_option maxHeartbeats 4000000 in
theorem twoColours_any (W H : Int) (A : Option Addr) (n c : Nat) (xs : List Int) (a b : Int) (N lo0 mo : Nat) (w : World) (ha : Rd w A n xs) (hF : OnFacts W H xs a b N) (hom : OnMap w lo0 mo (cellsL W H xs) (leapsL W H xs a b)) :
    Calls Tryz.prog 21 #[brd W H A n c, .map (some mo)] w fun e w' => e = .returned (.agg (words (paintF (fTwo W H xs a b) (partsL W H xs a b).flatten)).toArray) ∧ Below w.heap.size w w' := by
  obtain ⟨ps, hps⟩ : ∃ ps, ps = partsL W H xs a b := ⟨_, rfl⟩
  obtain ⟨f, hf⟩ : ∃ f, f = fTwo W H xs a b := ⟨_, rfl⟩
  rw [← hps, ← hf]
  have HFF := Lib.hid hf
  have HPS := Lib.hid hps
  clear hf
  have HF := Lib.hid hF
  have n64 := hF.n.2
  obtain ⟨W4, hW4⟩ : ∃ W4, W4 = ((w.alloc (.cells #[.int .i64 W, .int .i64 H, .slice A n c] 31)).alloc (.cells nine0 53)).alloc (.cells nine0 53) := ⟨_, rfl⟩
  have hs4 : W4.heap.size = w.heap.size + 3 := by rw [hW4]; simp
  have hb4 : Below w.heap.size w W4 := by rw [hW4]; exact ((below_new (Below.refl _ _) _).alloc (by simp) _).alloc (by simp; omega) _
  have hr4 : W4.heap[w.heap.size + 1]? = some (.cells nine0 53 (0, 0)) := by
    have h := World.alloc_heap_new (w.alloc (.cells #[.int .i64 W, .int .i64 H, .slice A n c] 31)) (.cells nine0 53)
    rw [hW4, Below.heap_alloc _ _ _ (by simp)]; rw [World.size_alloc] at h; exact h
  have hp4 : W4.heap[w.heap.size + 1 + 1]? = some (.cells nine0 53 (0, 0)) := by
    have h := World.alloc_heap_new ((w.alloc (.cells #[.int .i64 W, .int .i64 H, .slice A n c] 31)).alloc (.cells nine0 53)) (.cells nine0 53)
    rw [hW4]; rw [World.size_alloc, World.size_alloc] at h; exact h
  have hpo := partsOf_any W H A n c xs a b N lo0 mo W4 (ha.keep hb4) hF (hom.keep hb4)
  rw [← hps] at hpo
  unfold nine0 at hW4
  go_enter Tryz.func21, Tryz.ntmps21
  go_wp2_with fail
  rw [← hW4]
  clear hW4
  refine hpo.mono ?_
  rintro e ws ⟨A', n', c', top, rfl, hpa, hb⟩
  have hp5 := (hb.block (w.heap.size + 1 + 1) (by omega)).trans hp4
  have hr5 := Lib.hid ((hb.block (w.heap.size + 1) (by omega)).trans hr4)
  have hss := hb.size
  have HOM := Lib.hid hom
  have HB := Lib.hid (below_next hb4 hb)
  have PA := Lib.hid hpa
  obtain ⟨hTL, hTP⟩ := two_parts hF
  rw [← hps] at hTP
  have HTP := Lib.hid hTP
  have hn' : n' ≤ 64 := by
    have := hpa.len
    have h1 := partsTo_len W H xs a b (cellsL W H xs).length
    rw [partsTo, List.take_length] at h1
    have h2 := cellsTo_len (W := W) (H := H) (hs := xs) (W * H).toNat
    have h3 := hF.wh
    have h4 : (cellsL W H xs).length ≤ (W * H).toNat := h2
    have h5 : ps.length ≤ (cellsL W H xs).length := by rw [HPS.out]; exact h1
    omega
  have hpl := hpa.len
  have hmid : MidP ws (w.heap.size + 1 + 1) (paintF f (ps.take 0).flatten) ws := ⟨grown_refl _ _, by rw [List.take_zero, List.flatten_nil, paintF_nil, ← nine_words]; exact hp5⟩
  have HM := Lib.hid hmid
  clear hpa hb hb4 hpo hp4 hr4 hp5 hom ha hF hTP hmid hps
  go_wp2
  go_loopw [15] (fun i wr => ∃ k : Nat, k ≤ n' ∧ i = .int .i64 k ∧ MidP ws (w.heap.size + 1 + 1) (paintF f (ps.take k).flatten) wr) (fun i _ => n' - (intOf i).toNat)
  case atStart => exact ⟨0, Nat.zero_le _, rfl, HM.out⟩
  case round =>
    clear HM
    obtain ⟨k, hk, rfl, hmp⟩ := hrel
    have HMP := Lib.hid hmp
    have hsw := hmp.1.size
    by_cases hlt : k < n'
    · obtain ⟨g, A9, n9, c9, p, rfl, hg1, hg2, hp, hpc, hown⟩ := PA.out.at_ hlt
      obtain ⟨c0, hc0, hpe, hhd, hcol⟩ := HTP.out p (List.mem_of_getElem? hp)
      have hpn : 0 < n9 := by have := hown.len; cases p with | nil => simp at hhd | cons y t => simp at this; omega
      obtain ⟨g9, rfl, hg3, hg4⟩ := hown.some_ hpn
      have hx0 : p[0]? = some c0 := by rw [← hhd, List.head?_eq_getElem?]
      have x0 := hmp.1.cell hpc (by simp; omega)
      have y0 := hmp.1.cell (hown.cell hx0) (by simp; omega)
      have hcr := (hasB_iff.1 hc0).1
      rw [HF.out.wh] at hcr
      obtain ⟨s, rfl⟩ : ∃ s : Nat, c0 = (s : Int) := ⟨c0.toNat, by omega⟩
      have hwr := HB.out.grown hmp.1 HB.out.size (fun k e => by cases e; omega)
      have hD := distancesFrom_any lo0 mo (cellsL W H xs) (leapsL W H xs a b) s wr (HOM.out.keep hwr) (by omega) (cellsL_mem.2 hc0) (cells_in HF.out) adj_in
      have hL := far_len64 HF.out hc0
      have HC0 := Lib.hid hc0
      have hfar := far64 HF.out hc0
      obtain ⟨L, hLL⟩ : ∃ L, L = farL (leapsL W H xs a b) 64 (s : Int) := ⟨_, rfl⟩
      rw [← hLL] at hD hL hfar
      have OWN := Lib.hid hown; have HP := Lib.hid hp; have HCOL := Lib.hid hcol; have HFAR := Lib.hid hfar; have HWR := Lib.hid hwr
      clear hmp hpc hown hcol hfar hp hwr hhd hc0 hLL hx0
      go_wp2_with fail
      refine hD.mono ?_
      rintro e wu ⟨rfl, hbu⟩
      have hgl := OWN.out.len
      have hp9 : n9 ≤ 64 := by
        rw [← hgl, hpe, partL]
        have := selTo_len (nearB (distL W H xs a b (s : Int)) 64) (W * H).toNat
        have := HF.out.wh
        omega
      have hsu := hbu.size
      have HMU := Lib.hid (midP_below (midP_below HMP.out hbu) ((Below.refl _ _).alloc (Nat.le_refl wu.heap.size) (.cells (L.map (Value.int .i64)).toArray 67)))
      have HDC := Lib.hid (cell_laid wu L 67)
      clear hbu x0 y0
      go_wp2_with (refine wpList_store64 L hL rfl _ _ rfl rfl rfl rfl _ _ rfl ?_)
      obtain ⟨wd, hwd⟩ : ∃ wd, wd = wu.heap.size := ⟨_, rfl⟩
      obtain ⟨W6, hW6⟩ : ∃ W6, W6 = wu.alloc (.cells (L.map (Value.int .i64)).toArray 67) := ⟨_, rfl⟩
      have hs6 : W6.heap.size = wd + 1 := by rw [hW6, hwd]; simp
      rw [← hW6] at HMU HDC ⊢
      rw [← hwd] at HDC hsu ⊢
      clear hW6 hwd
      go_wp2
      have hFn := Lib.hid (show (ps.take (k + 1)).flatten = (ps.take k).flatten ++ p by rw [List.take_add_one, HP.out]; simp)
      have HM0 := Lib.hid (show MidP ws (w.heap.size + 1 + 1) (paintF f ((ps.take k).flatten ++ p.take 0)) W6 by rw [List.take_zero, List.append_nil]; exact HMU.out)
      have hcells : Hid (∀ y ∈ (ps.take k).flatten ++ p, 0 ≤ y ∧ y < 64) := Lib.hid (fun y hy => by
        rcases List.mem_append.1 hy with hy | hy
        · obtain ⟨q, hq, hyq⟩ := List.mem_flatten.1 hy
          obtain ⟨_, _, _, _, h9⟩ := HTP.out q (List.mem_of_mem_take hq)
          have := (h9 y hyq).1; omega
        · have := (HCOL.out y hy).1; omega)
      obtain ⟨pre, hpre⟩ : ∃ pre, pre = (ps.take k).flatten := ⟨_, rfl⟩
      rw [← hpre] at HM0 hFn hcells
      have hs6w : ws.heap.size ≤ wd := by omega
      clear HMU hpre HMP hD
      go_loopw [26] (fun i wx => ∃ j : Nat, j ≤ n9 ∧ i = .int .i64 j ∧ MidP ws (w.heap.size + 1 + 1) (paintF f (pre ++ p.take j)) wx ∧ W6.grownBy wx (some (w.heap.size + 1 + 1))) (fun i _ => n9 - (intOf i).toNat)
      case atStart => exact ⟨0, by omega, rfl, HM0.out, grown_refl _ _⟩
      case round =>
        clear HM0
        obtain ⟨j, hj, rfl, hmj, hgj⟩ := hrel
        have gl := (Array.getElem?_eq_some_iff.1 hmj.2).1
        have hwx := HB.out.grown hmj.1 HB.out.size (fun k e => by cases e; omega)
        have HWX := Lib.hid hwx
        have HPR := Lib.hid hmj.2; have HG1 := Lib.hid hmj.1; have HGJ := Lib.hid hgj
        by_cases hjl : j < n9
        · obtain ⟨x, hx⟩ : ∃ x, p[j]? = some x := ⟨_, List.getElem?_eq_getElem (show j < p.length by omega)⟩
          have hxm := List.mem_of_getElem? hx
          obtain ⟨hxN, hxc, hxd, hxe⟩ := HCOL.out x hxm
          have z0 := hmj.1.cell (OWN.out.cell hx) (by simp; omega)
          obtain ⟨q, rfl⟩ : ∃ q : Nat, x = (q : Int) := ⟨x.toNat, by omega⟩
          rw [Int.toNat_natCast] at hxc hxd hxe
          obtain ⟨d, hd⟩ : ∃ d, d = (distL W H xs a b (s : Int)).getD q (-1) := ⟨_, rfl⟩
          have hLd : L.getD q 0 = d := by
            rw [HFAR.out, List.getD_eq_getElem?_getD, List.getElem?_append_left (by rw [dist_len HF.out HC0.out]; omega), hd, List.getD_eq_getElem?_getD, List.getElem?_eq_getElem (by rw [dist_len HF.out HC0.out]; omega)]; rfl
          have e0 := HDC.out q (by omega)
          rw [Nat.zero_add, hLd] at e0
          have d0 := hgj.cell e0 (by simp; omega)
          rw [← hd] at hxd hxe
          have hfq : f (q : Int) = ((twoL W H xs a b).getD q (-1)).toNat := by rw [HFF.out, fTwo, Int.toNat_natCast]
          have hf9 : f (q : Int) < 9 := by omega
          have hdm : Int.tmod d 2 = ((f (q : Int) : Nat) : Int) := by rw [Int.tmod_eq_emod_of_nonneg hxd, hxe, hfq]; omega
          have HW1 := Lib.hid (with_any (paintF f (pre ++ p.take j)) (paintF_len _ _) q (f (q : Int)) _ (by omega) hf9 (paintF_at hf9) (setBits_lt _ (fun i hi => by
            obtain ⟨y, hy, rfl⟩ := List.mem_map.1 hi
            have hy2 := (List.mem_filter.1 hy).1
            have := hcells.out y (by
              rcases List.mem_append.1 hy2 with h | h
              · exact List.mem_append_left _ h
              · exact List.mem_append_right _ (List.mem_of_mem_take h))
            omega)))
          have hnx : (paintF f (pre ++ p.take j)).set (f (q : Int)) (setBits (((pre ++ p.take j).filter fun z => f z == f (q : Int)).map Int.toNat) ||| 2 ^ q) = paintF f (pre ++ p.take (j + 1)) := by
            have h := paintF_snoc (f := f) (ys := pre ++ p.take j) (y := (q : Int))
            rw [Int.toNat_natCast] at h
            rw [h, List.take_add_one, hx, List.append_assoc]; rfl
          rw [hnx, ← hdm] at HW1
          obtain ⟨P, hP⟩ : ∃ P, P = paintF f (pre ++ p.take j) := ⟨_, rfl⟩
          obtain ⟨P1, hP1⟩ : ∃ P1, P1 = paintF f (pre ++ p.take (j + 1)) := ⟨_, rfl⟩
          have hPl : P.length = 9 := by rw [hP]; exact paintF_len _ _
          have hPl1 : P1.length = 9 := by rw [hP1]; exact paintF_len _ _
          rw [← hP] at HPR HW1
          rw [← hP1] at HW1
          have HP1 := Lib.hid hP1
          have hq0 : (0 : Int) ≤ (q : Int) := by omega
          have hq1 : (q : Int) < 64 := by omega
          have hq64 : q < 64 := by omega
          have hd65 : d ≤ 64 := by
            have := dist_lo HF.out HC0.out (i := q) (by omega)
            rw [← hd] at this; exact this.2
          clear hx hxm hnx hP hP1 hxN hxc hxe hd hLd e0 hfq hdm hmj hgj hwx
          have hPw : (words P).length = 9 := by simp [words, hPl]
          have hS9 : (words P1).length = 9 := by simp [words, hPl1]
          have hI8 : (Tryz.prog.info? 53).map (·.size) = some (words P1).length := by rw [info_painting, hS9]
          have HC9 := Lib.hid (show (words P).toArray.size = (words P1).length by rw [hS9]; simpa using hPw)
          have hO9 : ∀ v ∈ words P1, v.oneCell' = true := words_one _
          obtain ⟨y0, y1, y2, y3, y4, y5, y6, y7, y8, rfl⟩ := nine_of_len hPl
          obtain ⟨q0, q1, q2, q3, q4, q5, q6, q7, q8⟩ := nine_cells HPR.out
          go_wp2
          go_region_with (go_at_call 39; refine (HW1.out _).mono ?_; rintro e wv ⟨rfl, hb⟩; (try replace hb := below_undrew hb); replace HPR := Lib.hid ((hb.block (w.heap.size + 1 + 1) gl).trans HPR.out); replace HG1 := Lib.hid (grown_next HG1.out (grown_of_below hb _)); replace HGJ := Lib.hid (grown_next HGJ.out (grown_of_below hb _)); replace gl := lt_keep gl hb; clear hb; obtain ⟨q0, q1, q2, q3, q4, q5, q6, q7, q8⟩ := nine_cells HPR.out; have hst := store_row (P := Tryz.prog) (cs := words P1) HPR.out hI8 HC9.out hO9)
          all_goals go_wp2
          all_goals go_roundw
          all_goals (first | exact ⟨j + 1, by omega, by go_num, ⟨grown_next HG1.out (grown_setRow _ _ _), by rw [← HP1.out]; exact heap_setRow HPR.out⟩, grown_next HGJ.out (grown_setRow _ _ _)⟩ | (simp [intOf]; omega))
        · obtain rfl : j = n9 := by omega
          have eP : p.take j = p := List.take_of_length_le (by omega)
          rw [eP, ← hFn.out] at hmj
          have HMJ := Lib.hid hmj
          clear hmj hgj hwx HPR HG1 HGJ HWX
          go_wp2
          go_roundw
          case rel => exact ⟨k + 1, by omega, by go_num, HMJ.out⟩
          case measure => simp [intOf]; omega
    · obtain rfl : k = n' := by omega
      have eF : ps.take k = ps := List.take_of_length_le (by omega)
      rw [eF] at hmp
      have hrr := (hmp.1.block (w.heap.size + 1) (by omega) (by simp)).trans hr5.out
      have hh5 := Lib.hid (heap_setRow (W := wr) (c' := (words (paintF f ps.flatten)).toArray) hrr)
      have hwr := HB.out.grown hmp.1 HB.out.size (fun k e => by cases e; omega)
      have hb5 := Lib.hid (hwr.grown (grown_setRow wr (w.heap.size + 1) (words (paintF f ps.flatten)).toArray) hwr.size (fun k e => by cases e; omega))
      have hP9 := paintF_len f ps.flatten
      obtain ⟨P, hP⟩ : ∃ P, P = paintF f ps.flatten := ⟨_, rfl⟩
      rw [← hP] at hmp hh5 hb5 hP9
      have HPP := Lib.hid hP
      have HRG := Lib.hid (range_of_row hmp.2)
      have hw9 : (words P).length = 9 := by simp [words, hP9]
      have HTH := Lib.hid (show nine0.size = (words P).toArray.size by simp [hw9]; rfl)
      have HRR := Lib.hid hrr
      have HIN := Lib.hid (show (Tryz.prog.info? 53).map (·.size) = some (words P).length by rw [info_painting, hw9])
      have HIN2 := Lib.hid (show (Tryz.prog.info? 53).map (·.size) = some (words P).toArray.size by rw [info_painting]; simp [hw9])
      have HONE := Lib.hid (all_oneCell_toArray (words_one P))
      clear hmp hrr hwr hP
      go_wp2_with (first | (refine wpList_load_mid rfl 53 (.tmp 5) rfl (w.heap.size + 1 + 1) 0 rfl (words P) _ HRG.out Tryz.underlying53 rfl HIN.out ?_) | (refine wpList_store_rowTo rfl _ (.tmp 4) (.tmp 39) rfl rfl (w.heap.size + 1) (words P).toArray rfl rfl 53 nine0 HRR.out HIN2.out HTH.out HONE.out ?_))
      exact bodyPost_ret (v := .agg (words P).toArray) (results_cell_row Tryz.results21 _ _ (w.heap.size + 1) 53 (words P).toArray (0, 0) _ rfl hh5.out Tryz.underlying53 rfl HIN2.out) rfl ⟨by rw [HPP.out], hb5.out⟩
end Go.Proofs.YtomfgjbicpeggaaGreat

namespace Go.Proofs.YtomfgjbicpeggaaGreat
open Go.RowKit

/-- A row of slices, all of it in the blocks from lo to hi. -/
def OwnSS (w : World) (lo hi : Nat) (A : Option Addr) (n c : Nat) (ps : List (List Int)) : Prop := PartsAt w lo hi A n c ps ∧ ∀ a, A = some a → a.block < hi
theorem own_lo {w : World} {lo : Nat} {E : TypeId} {k : Nat} {a : Addr} {n c : Nat} {xs : List Value} (h : w.ownsRow lo E k (.slice (some a) n c) n xs) : lo ≤ a.block ∧ a.block < w.heap.size := by
  have := World.ownsRow.lt h a.block rfl; exact this
theorem OwnSS.of {w : World} {lo top : Nat} {A : Option Addr} {n c : Nat} {ps : List (List Int)} (h : PartsAt w lo top A n c ps) : OwnSS w lo w.heap.size A n c ps := by
  refine ⟨?_, h.lt⟩
  obtain ⟨vs, h1, h2, h3, h4, _⟩ := h
  refine ⟨vs, h1, h2, h3, h4, fun i v hv x hx => ?_⟩
  obtain ⟨p, hp⟩ : ∃ p, ps[i]? = some p := ⟨_, List.getElem?_eq_getElem (by have := (List.getElem?_eq_some_iff.1 hv).1; have := h1.len; omega)⟩
  have h5 := h3 i v p hv hp
  rw [hx] at h5
  exact (own_lo h5).2
theorem OwnSS.keep {w w' : World} {lo hi : Nat} {A : Option Addr} {n c : Nat} {ps : List (List Int)} (h : OwnSS w lo hi A n c ps) (hb : Below w.heap.size w w') : OwnSS w' lo hi A n c ps := ⟨h.1.keep hb, h.2⟩
theorem OwnSS.drew1 {w : World} {lo hi : Nat} {A : Option Addr} {n c : Nat} {ps : List (List Int)} (h : OwnSS w lo hi A n c ps) : OwnSS w.drew lo hi A n c ps := h
theorem OwnSS.len {w : World} {lo hi : Nat} {A : Option Addr} {n c : Nat} {ps : List (List Int)} (h : OwnSS w lo hi A n c ps) : ps.length = n := h.1.len
/-- Kept as long as no block from lo to hi is written. -/
theorem OwnSS.blocks {w w' : World} {lo hi : Nat} {A : Option Addr} {n c : Nat} {ps : List (List Int)} (h : OwnSS w lo hi A n c ps) (hk : ∀ i, i < w.heap.size → lo ≤ i → i < hi → w'.heap[i]? = w.heap[i]?) : OwnSS w' lo hi A n c ps := by
  obtain ⟨⟨vs, h1, h2, h3, h4, h5⟩, h6⟩ := h
  have key : ∀ {E : TypeId} {k : Nat} {v : Option Addr} {n c : Nat} {xs : List Value}, w.ownsRow lo E k (.slice v n c) n xs → (∀ x, v = some x → x.block < hi) → w'.ownsRow lo E k (.slice v n c) n xs := by
    intro E k v n c xs h hv
    refine ⟨h.1, ?_⟩
    rcases h.2 with hn | ⟨g, cap, cur, he, hlo, hg, r⟩
    · exact .inl hn
    · have hgv : g < hi := by
        injection he with he
        exact hv _ he
      exact .inr ⟨g, cap, cur, he, hlo, (hk g (Array.getElem?_eq_some_iff.1 hg).1 hlo hgv).trans hg, r⟩
  exact ⟨⟨vs, ⟨h1.1, key h1.2 h6⟩, h2, fun i v p hv hp => key (h3 i v p hv hp) (h5 i v hv), h4, h5⟩, h6⟩
theorem OwnSS.other {w w' : World} {lo hi : Nat} {A : Option Addr} {n c : Nat} {ps : List (List Int)} {row : Option Nat} (h : OwnSS w lo hi A n c ps) (hg : w.grownBy w' row) (hne : ∀ g, lo ≤ g → g < hi → some g ≠ row) : OwnSS w' lo hi A n c ps :=
  h.blocks (fun i hi1 h1 h2 => hg.block i hi1 (hne i h1 h2))
/-- Whatever was written lies in the blocks from lo to hi. -/
structure Within (lo hi : Nat) (w w' : World) : Prop where
  os : w'.os = w.os
  tape : w'.tape = w.tape
  output : w'.output = w.output
  size : w.heap.size ≤ w'.heap.size
  block : ∀ i, i < w.heap.size → (i < lo ∨ hi ≤ i) → w'.heap[i]? = w.heap[i]?
theorem cell_of_block {w w' : World} {b i : Nat} (h : w'.heap[b]? = w.heap[b]?) : w'.cell? ⟨b, i, none⟩ = w.cell? ⟨b, i, none⟩ := by
  unfold World.cell?
  simp only [h]
theorem cell_in {w w' : World} {lo hi b i : Nat} {v : Value} (h : w.cell? ⟨b, i, none⟩ = some v) (hg : Within lo hi w w') (hl : b < w.heap.size) (ho : b < lo ∨ hi ≤ b) : w'.cell? ⟨b, i, none⟩ = some v := (cell_of_block (hg.block b hl ho)).trans h
theorem OwnI.within {E : TypeId} {w w' : World} {lo0 lo hi : Nat} {A : Option Addr} {n c : Nat} {xs : List Int} (h : OwnI E w lo0 A n c xs) (hg : Within lo hi w w') (ho : ∀ a, A = some a → a.block < lo ∨ hi ≤ a.block) : OwnI E w' lo0 A n c xs := by
  refine ⟨h.1, ?_⟩
  rcases h.2 with hn | ⟨g, cap, cur, hv, hlo, hgg, r⟩
  · exact .inl hn
  · refine .inr ⟨g, cap, cur, hv, hlo, ?_, r⟩
    injection hv with h1
    exact (hg.block g (Array.getElem?_eq_some_iff.1 hgg).1 (ho _ h1)).trans hgg
theorem OwnSS.within {w w' : World} {lo0 hi0 lo hi : Nat} {A : Option Addr} {n c : Nat} {ps : List (List Int)} (h : OwnSS w lo0 hi0 A n c ps) (hg : Within lo hi w w') (ho : hi0 ≤ lo ∨ hi ≤ lo0) : OwnSS w' lo0 hi0 A n c ps :=
  h.blocks (fun i hi1 h1 h2 => hg.block i hi1 (by omega))
theorem below_within {a w w' : World} {lo hi : Nat} (h : Below a.heap.size a w) (hg : Within lo hi w w') (hl : a.heap.size ≤ lo) : Below a.heap.size a w' :=
  ⟨hg.os.trans h.os, hg.tape.trans h.tape, hg.output.trans h.output, Nat.le_trans h.size hg.size, fun i hi => (hg.block i (Nat.lt_of_lt_of_le hi h.size) (by omega)).trans (h.block i hi)⟩
theorem within_refl (lo hi : Nat) (w : World) : Within lo hi w w := ⟨rfl, rfl, rfl, Nat.le_refl _, fun _ _ _ => rfl⟩
theorem within_drew {lo hi : Nat} {w w' : World} (h : Within lo hi w w') : Within lo hi w w'.drew := ⟨h.os, h.tape, h.output, h.size, h.block⟩
theorem within_grown {lo hi : Nat} {a b c : World} {A : Option Addr} (h : Within lo hi a b) (hg : b.grownBy c (rowOf A)) (hA : ∀ x, A = some x → lo ≤ x.block ∧ x.block < hi) : Within lo hi a c :=
  ⟨hg.os.trans h.os, hg.tape.trans h.tape, hg.output.trans h.output, Nat.le_trans h.size hg.size, fun i hi1 ho => (hg.block i (Nat.lt_of_lt_of_le hi1 h.size) (by
    rcases A with _ | x
    · simp [rowOf]
    · have := hA x rfl
      simp [rowOf]; omega)).trans (h.block i hi1 ho)⟩
/-- Part i of the row: its slice, its list; and the row when it is written over. -/
theorem OwnSS.at_ {w : World} {lo hi : Nat} {A : Option Addr} {n c : Nat} {ps : List (List Int)} (h : OwnSS w lo hi A n c ps) {i : Nat} (hi1 : i < n) :
    ∃ g V m k p, A = some ⟨g, 0, none⟩ ∧ g < w.heap.size ∧ w.cell? ⟨g, i, none⟩ = some (.slice V m k) ∧ ps[i]? = some p ∧ OwnI 3 w lo V m k p ∧ (∀ x, V = some x → lo ≤ x.block ∧ x.block < hi) ∧
      ∀ w' p', OwnI 3 w' lo V m k p' → w.grownBy w' (rowOf V) → OwnSS w' lo hi A n c (ps.set i p') := by
  obtain ⟨⟨vs, h1, h2, h3, h4, h5⟩, h6⟩ := h
  obtain ⟨g, rfl, hg1, hg2⟩ := h1.some_ hi1
  have hvl := h1.len
  obtain ⟨⟨V, m, k⟩, hv⟩ : ∃ v, vs[i]? = some v := ⟨_, List.getElem?_eq_getElem (by omega)⟩
  have hp : ps[i]? = some ps[i] := List.getElem?_eq_getElem (by omega)
  have ho := h3 i _ _ hv hp
  have hc := OwnK.cell (enc := encS) (k := 1) (j := 0) (fun _ => rfl) h1 hv (show (encS (V, m, k))[0]? = some (.slice V m k) from rfl)
  rw [show i * 1 + 0 = i by omega] at hc
  have hb : ∀ x, V = some x → lo ≤ x.block ∧ x.block < hi := fun x hx => by
    refine ⟨?_, h5 i _ hv x hx⟩
    have ho' := ho
    rw [show (V, m, k).1 = some x from hx] at ho'
    exact (own_lo ho').1
  refine ⟨g, V, m, k, ps[i], rfl, hg2, hc, hp, ho, hb, fun w' p' hw hgr => ⟨⟨vs, h1.other hgr (fun a ha => ?_), by rw [List.length_set]; exact h2, fun j v q hv' hq => ?_, h4, h5⟩, h6⟩⟩
  · injection ha with ha
    subst ha
    rcases V with _ | x
    · simp [rowOf]
    · have := rows_apart (by decide : 3 ≠ 22) ho h1.2
      simp [rowOf]; exact fun h => this h.symm
  · rw [List.getElem?_set] at hq
    by_cases e : i = j
    · subst e
      rw [if_pos rfl, if_pos (by omega)] at hq
      injection hq with hq
      rw [hv] at hv'
      injection hv' with hv'
      rw [← hv', ← hq]
      exact hw
    · rw [if_neg e] at hq
      have h7 := h3 j v q hv' hq
      refine h7.other hgr (fun a ha => ?_)
      rcases V with _ | x
      · simp [rowOf]
      · have : a.block ≠ x.block := by
          rcases Nat.lt_or_gt_of_ne e with h8 | h8
          · have := h4 i j _ _ h8 hv hv' x a rfl ha; omega
          · have := h4 j i _ _ h8 hv' hv a x ha rfl; omega
        simpa [rowOf] using this

end Go.Proofs.YtomfgjbicpeggaaGreat

namespace Go.Proofs.YtomfgjbicpeggaaGreat
open Go.RowKit

set_option maxRecDepth 100000 in
set_option maxHeartbeats 2000000 in
theorem eqIntSS_any (lo hi lo2 hi2 : Nat) (A1 A2 : Option Addr) (n1 n2 cc1 cc2 : Nat) (ps : List (List Int)) (w : World) (h1 : OwnSS w lo hi A1 n1 cc1 ps) (h2 : OwnSS w lo2 hi2 A2 n2 cc2 ps) (hn : n1 ≤ 5000) :
    Calls Tryz.prog 9 #[.slice A1 n1 cc1, .slice A2 n2 cc2] w fun e w' => e = .returned (.bool true) ∧ Below w.heap.size w w' := by
  obtain rfl : n2 = n1 := by rw [← h1.len, ← h2.len]
  have H1 := Lib.hid h1; have H2 := Lib.hid h2
  clear h1 h2
  go_enter Tryz.func9, Tryz.ntmps9
  go_wp2
  go_loopw [5] (fun i wr => ∃ k : Nat, k ≤ n2 ∧ i = .int .i64 k ∧ Below w.heap.size w wr) (fun i _ => n2 - (intOf i).toNat)
  case atStart => exact ⟨0, by omega, rfl, Below.refl _ _⟩
  case round =>
    obtain ⟨k, hk, rfl, hbw⟩ := hrel
    by_cases hlt : k < n2
    · obtain ⟨g1, V1, m1, k1, p, rfl, hl1, c1, hp1, ho1, _, _⟩ := (H1.out.keep hbw).at_ hlt
      obtain ⟨g2, V2, m2, k2, p2, rfl, hl2, c2, hp2, ho2, _, _⟩ := (H2.out.keep hbw).at_ hlt
      obtain rfl : p2 = p := by rw [hp1] at hp2; injection hp2 with hp2; exact hp2.symm
      have R1 := Lib.hid ho1.rd; have R2 := Lib.hid ho2.rd
      have HB := Lib.hid hbw
      have k0 : (0 : Int) ≤ (k : Int) := by omega
      have k9 : (k : Int) < (n2 : Int) := by omega
      clear hp1 hp2 ho1 ho2 hbw
      go_wp2_with fail
      refine wp_region_held_drew (S := fun w' => w'.cell? ⟨g1, k, none⟩ = some (.slice V1 m1 k1) ∧ w'.cell? ⟨g2, k, none⟩ = some (.slice V2 m2 k2)) (by kernel_rfl) ?_ (fun hHeld => ?_)
      · (try dsimp only)
        exact ⟨c1, c2⟩
      refine wpAnyH_take (i := 0) (oi := ⟨_, _, _, _, _, _⟩) (v := ?_) rfl (by kernel_rfl) (by kernel_rfl) (by kernel_rfl) (fun _ _ _ h => h) (Or.inl ⟨by rfl, ?_⟩) (by assumption) ?_
      rotate_left
      · intro w hSw
        (try dsimp only at hSw)
        go_simp
        (try with_reducible rfl)
      (try simp only [Act.put, List.setIfInBounds_toArray, List.set_cons_zero, List.set_cons_succ])
      refine wpAnyH_take (i := 1) (oi := ⟨_, _, _, _, _, _⟩) (v := ?_) rfl (by kernel_rfl) (by kernel_rfl) (by kernel_rfl) (fun _ _ _ h => h) (Or.inl ⟨by rfl, ?_⟩) (by assumption) ?_
      rotate_left
      · intro w hSw
        (try dsimp only at hSw)
        go_simp
        (try with_reducible rfl)
      (try simp only [Act.put, List.setIfInBounds_toArray, List.set_cons_zero, List.set_cons_succ])
      refine wpAnyH_take (i := 2) (oi := ⟨_, _, _, _, _, _⟩) (v := ?_) rfl (by kernel_rfl) (by kernel_rfl) (by kernel_rfl) (fun _ _ _ h => h) (Or.inl ⟨by rfl, ?_⟩) (by assumption) ?_
      rotate_left
      · intro w hSw
        (try dsimp only at hSw)
        go_simp
        (try with_reducible rfl)
      (try simp only [Act.put, List.setIfInBounds_toArray, List.set_cons_zero, List.set_cons_succ])
      refine wpAnyH_take (i := 3) (oi := ⟨_, _, _, _, _, _⟩) (v := ?_) rfl (by kernel_rfl) (by kernel_rfl) (by kernel_rfl) (fun _ _ _ h => h) (Or.inl ⟨by rfl, ?_⟩) (by assumption) ?_
      rotate_left
      · intro w hSw
        (try dsimp only at hSw)
        go_simp
        (try with_reducible rfl)
      (try simp only [Act.put, List.setIfInBounds_toArray, List.set_cons_zero, List.set_cons_succ])
      refine wpAnyH_take (i := 4) (oi := ⟨_, _, _, _, _, _⟩) (v := ?_) rfl (by kernel_rfl) (by kernel_rfl) (by kernel_rfl) (fun _ _ _ h => h) (Or.inl ⟨by rfl, ?_⟩) (by assumption) ?_
      rotate_left
      · intro w hSw
        (try dsimp only at hSw)
        go_simp
        (try with_reducible rfl)
      (try simp only [Act.put, List.setIfInBounds_toArray, List.set_cons_zero, List.set_cons_succ])
      refine wpAnyH_take (i := 5) (oi := ⟨_, _, _, _, _, _⟩) (v := ?_) rfl (by kernel_rfl) (by kernel_rfl) (by kernel_rfl) (fun _ _ _ h => h) (Or.inl ⟨by rfl, ?_⟩) (by assumption) ?_
      rotate_left
      · intro w hSw
        (try dsimp only at hSw)
        go_simp
        (try with_reducible rfl)
      (try simp only [Act.put, List.setIfInBounds_toArray, List.set_cons_zero, List.set_cons_succ])
      refine wpAnyH_take (i := 6) (oi := ⟨_, _, _, _, _, _⟩) (v := ?_) rfl (by kernel_rfl) (by kernel_rfl) (by kernel_rfl) (fun _ _ _ h => h) (Or.inl ⟨by rfl, ?_⟩) (by assumption) ?_
      rotate_left
      · intro w hSw
        (try dsimp only at hSw)
        go_simp
        (try with_reducible rfl)
      (try simp only [Act.put, List.setIfInBounds_toArray, List.set_cons_zero, List.set_cons_succ])
      refine wpAnyH_take (i := 7) (oi := ⟨_, _, _, _, _, _⟩) (v := ?_) rfl (by kernel_rfl) (by kernel_rfl) (by kernel_rfl) (fun _ _ _ h => h) (Or.inl ⟨by rfl, ?_⟩) (by assumption) ?_
      rotate_left
      · intro w hSw
        (try dsimp only at hSw)
        go_simp
        (try with_reducible rfl)
      (try simp only [Act.put, List.setIfInBounds_toArray, List.set_cons_zero, List.set_cons_succ])
      refine wpAnyH_ready (rs := [8]) (by kernel_rfl) (by simp) ?_
      refine AllReadyH.cons (o := ⟨_, _, _, _, _, _⟩) rfl (fun K hK => ?_) AllReadyH.nil
      go_simp
      (go_at_call 25; refine (eqIntS_any V1 V2 m1 m2 k1 k2 p2 p2 _ ?_ ?_).mono ?_; (exact R1.out); (exact R2.out); simp only [decide_true]; rintro e wv ⟨rfl, hb⟩; (repeat (first | replace hb := below_undrew hb | replace hb := below_undrewN hb)); replace c1 := cell_keep c1 hl1 hb; replace c2 := cell_keep c2 hl2 hb; replace HB := Lib.hid (below_next HB.out hb); clear hb)
      (try go_wp2_with fail)
      refine hK.out _ _ ?_ (fun hHeld => ?_)
      · (try dsimp only)
        exact ⟨c1, c2⟩
      clear hK K
      (try simp only [Act.put, List.setIfInBounds_toArray, List.set_cons_zero, List.set_cons_succ])
      refine wpAnyH_take (i := 9) (oi := ⟨_, _, _, _, _, _⟩) (v := ?_) rfl (by kernel_rfl) (by kernel_rfl) (by kernel_rfl) (fun _ _ _ h => h) (Or.inl ⟨by rfl, ?_⟩) (by assumption) ?_
      rotate_left
      · intro w hSw
        (try dsimp only at hSw)
        go_simp
        (try with_reducible rfl)
      (try simp only [Act.put, List.setIfInBounds_toArray, List.set_cons_zero, List.set_cons_succ])
      refine wpAnyH_done (by kernel_rfl) ?_ _
      obtain ⟨wd, hwd⟩ : ∃ wd, wd = wv.drew := ⟨_, rfl⟩
      have HB2 := Lib.hid (show Below w.heap.size w wd by rw [hwd]; exact ⟨HB.out.os, HB.out.tape, HB.out.output, HB.out.size, HB.out.block⟩)
      (try rw [← hwd])
      clear hwd c1 c2
      go_wp2
      go_roundw
      case rel => first | exact ⟨k + 1, by omega, by go_num, HB2.out⟩ | exact ⟨k + 1, by omega, by go_num, HB.out⟩
      case measure => simp [intOf]; omega
    · obtain rfl : k = n2 := by omega
      go_wp2
      go_ret
      exact ⟨rfl, hbw⟩

/-- The lists behind i marks, and the next mark. -/
def markTo (ps : List (List Int)) (k0 : Int) : Nat → List (List Int) × Int
  | 0 => (ps, k0)
  | i + 1 => ((markTo ps k0 i).1.set i (marks (markTo ps k0 i).2 (ps.getD i []).length), (markTo ps k0 i).2 + (ps.getD i []).length)
theorem markTo_len (ps : List (List Int)) (k0 : Int) : ∀ i, (markTo ps k0 i).1.length = ps.length
  | 0 => rfl
  | i + 1 => by rw [markTo, List.length_set]; exact markTo_len ps k0 i
theorem markTo_later (ps : List (List Int)) (k0 : Int) : ∀ i j, i ≤ j → (markTo ps k0 i).1[j]? = ps[j]?
  | 0, _, _ => rfl
  | i + 1, j, h => by rw [markTo]; simp only; rw [List.getElem?_set_ne (by omega)]; exact markTo_later ps k0 i j (by omega)
theorem markTo_done (ps : List (List Int)) (k0 : Int) : ∀ i j, j < i → j < ps.length → (markTo ps k0 i).1[j]? = some (marks (markTo ps k0 j).2 (ps.getD j []).length)
  | 0, _, h, _ => absurd h (by omega)
  | i + 1, j, h, hj => by
    rw [markTo]
    simp only
    by_cases e : i = j
    · subst e; rw [List.getElem?_set, if_pos rfl, if_pos (by rw [markTo_len]; exact hj)]
    · rw [List.getElem?_set_ne e]; exact markTo_done ps k0 i j (by omega) hj
theorem markTo_bd {ps : List (List Int)} {k0 : Int} (hs : ∀ p ∈ ps, p.length ≤ 64) : ∀ i : Nat, k0 ≤ (markTo ps k0 i).2 ∧ (markTo ps k0 i).2 ≤ k0 + 64 * (i : Int)
  | 0 => by simp [markTo]
  | i + 1 => by
    have ih := markTo_bd (k0 := k0) hs i
    rw [markTo]
    simp only
    have hl : (ps.getD i []).length ≤ 64 := by
      rw [List.getD_eq_getElem?_getD]
      cases h : ps[i]? with
      | none => simp
      | some p => exact hs p (List.mem_of_getElem? h)
    push_cast
    omega
theorem getD_of {ps : List (List Int)} {i : Nat} {p : List Int} (h : ps[i]? = some p) : ps.getD i [] = p := by rw [List.getD_eq_getElem?_getD, h]; rfl

set_option maxRecDepth 100000 in
set_option maxHeartbeats 2000000 in
theorem markIntSS_any (lo hi : Nat) (A : Option Addr) (n c : Nat) (ps : List (List Int)) (k0 : Int) (w : World) (h : OwnSS w lo hi A n c ps) (hs : ∀ p ∈ ps, p.length ≤ 64) (hn : n ≤ 5000) (h0 : 0 ≤ k0 ∧ k0 ≤ 1000) :
    Calls Tryz.prog 12 #[.slice A n c, .int .i64 k0] w fun e w' => e = .returned (.int .i64 (markTo ps k0 n).2) ∧ OwnSS w' lo hi A n c (markTo ps k0 n).1 ∧ Within lo hi w w' := by
  have H := Lib.hid h; have HS := Lib.hid hs; have HLEN := Lib.hid h.len
  clear h hs
  go_enter Tryz.func12, Tryz.ntmps12
  go_wp2
  go_loopw [1, 5] (fun v i wr => ∃ k : Nat, k ≤ n ∧ i = .int .i64 k ∧ v = .int .i64 (markTo ps k0 k).2 ∧ OwnSS wr lo hi A n c (markTo ps k0 k).1 ∧ Within lo hi w wr) (fun _ i _ => n - (intOf i).toNat)
  case atStart => exact ⟨0, by omega, rfl, rfl, H.out, within_refl _ _ _⟩
  case round =>
    obtain ⟨k, hk, rfl, rfl, how, hwi⟩ := hrel
    have hbd := markTo_bd (k0 := k0) HS.out k
    have HW := Lib.hid hwi
    by_cases hlt : k < n
    · obtain ⟨g1, V, m, kk, p, rfl, hl1, c1, hp1, ho1, hv1, hup⟩ := how.at_ hlt
      have hpk : ps[k]? = some p := by rw [markTo_later ps k0 k k (Nat.le_refl _)] at hp1; exact hp1
      have hm : p.length = m := ho1.len
      have hm64 : m ≤ 64 := by rw [← hm]; exact HS.out p (List.mem_of_getElem? hpk)
      have e1 : markTo ps k0 (k + 1) = ((markTo ps k0 k).1.set k (marks (markTo ps k0 k).2 m), (markTo ps k0 k).2 + m) := by rw [markTo, getD_of hpk, hm]
      have E1 := Lib.hid e1; have HU := Lib.hid hup; have HV := Lib.hid hv1; have HO := Lib.hid ho1
      obtain ⟨mk, hmk⟩ : ∃ mk, mk = (markTo ps k0 k).2 := ⟨_, rfl⟩
      have HMK := Lib.hid hmk
      rw [← hmk] at hbd ⊢
      have k00 : (0 : Int) ≤ (k : Int) := by omega
      have k99 : (k : Int) < (n : Int) := by omega
      clear how hp1 ho1 hv1 hup hpk hm e1 hmk hwi
      go_wp2_with fail
      refine (markIntS_any V m kk lo mk p _ HO.out (by omega) (by omega)).mono ?_
      rintro e wv ⟨rfl, HO', hg⟩
      have HO2 := Lib.hid (HU.out _ _ HO' hg)
      have HW2 := Lib.hid (within_grown HW.out hg HV.out)
      clear HO' hg c1
      go_wp2
      go_roundw
      case rel => exact ⟨k + 1, by omega, by go_num, by rw [E1.out, HMK.out], by rw [E1.out, ← HMK.out]; exact HO2.out, HW2.out⟩
      case measure => simp [intOf]; omega
    · obtain rfl : k = n := by omega
      go_wp2
      go_ret
      exact ⟨rfl, how, HW.out⟩

set_option maxRecDepth 100000 in
set_option maxHeartbeats 2000000 in
theorem heldIntSS_any (lo hi : Nat) (A : Option Addr) (n c : Nat) (ps : List (List Int)) (k0 : Int) (w : World) (h : OwnSS w lo hi A n c (markTo ps k0 n).1) (hs : ∀ p ∈ ps, p.length ≤ 64) (hn : n ≤ 5000) (hpn : ps.length = n) (h0 : 0 ≤ k0 ∧ k0 ≤ 1000) :
    Calls Tryz.prog 13 #[.slice A n c, .int .i64 k0] w fun e w' => e = .returned (.int .i64 (markTo ps k0 n).2) ∧ Below w.heap.size w w' := by
  have H := Lib.hid h; have HS := Lib.hid hs; have HPN := Lib.hid hpn
  clear h hs hpn
  go_enter Tryz.func13, Tryz.ntmps13
  go_wp2
  go_loopw [1, 5] (fun v i wr => ∃ k : Nat, k ≤ n ∧ i = .int .i64 k ∧ v = .int .i64 (markTo ps k0 k).2 ∧ Below w.heap.size w wr) (fun _ i _ => n - (intOf i).toNat)
  case atStart => exact ⟨0, by omega, rfl, rfl, Below.refl _ _⟩
  case round =>
    obtain ⟨k, hk, rfl, rfl, hbw⟩ := hrel
    have hbd := markTo_bd (k0 := k0) HS.out k
    have HB := Lib.hid hbw
    by_cases hlt : k < n
    · obtain ⟨g1, V, m, kk, p, rfl, hl1, c1, hp1, ho1, _, _⟩ := (H.out.keep hbw).at_ hlt
      rw [markTo_done ps k0 n k hlt (by rw [HPN.out]; exact hlt)] at hp1
      injection hp1 with hp1
      have hm : (ps.getD k []).length = m := by rw [← ho1.len, ← hp1, marks_length]
      rw [hm] at hp1
      rw [← hp1] at ho1
      have hm64 : m ≤ 64 := by
        rw [← hm, List.getD_eq_getElem?_getD]
        cases h9 : ps[k]? with
        | none => simp
        | some p => exact HS.out p (List.mem_of_getElem? h9)
      have e1 : (markTo ps k0 (k + 1)).2 = (markTo ps k0 k).2 + m := by rw [markTo]; simp only; rw [hm]
      have E1 := Lib.hid e1; have HO := Lib.hid ho1.rd
      obtain ⟨mk, hmk⟩ : ∃ mk, mk = (markTo ps k0 k).2 := ⟨_, rfl⟩
      have HMK := Lib.hid hmk
      rw [← hmk] at hbd HO ⊢
      have k00 : (0 : Int) ≤ (k : Int) := by omega
      have k99 : (k : Int) < (n : Int) := by omega
      clear hp1 ho1 hm e1 hmk hbw
      go_wp2_with fail
      refine (heldIntS_any V m kk mk _ HO.out (by omega) (by omega)).mono ?_
      rintro e wv ⟨rfl, hb⟩
      replace HB := Lib.hid (below_next HB.out hb)
      have hnn : decide (mk + (m : Int) < 0) = false := by simp; omega
      clear hb c1
      go_wp2
      go_roundw
      case rel => exact ⟨k + 1, by omega, by go_num, by rw [E1.out, HMK.out], HB.out⟩
      case measure => simp [intOf]; omega
    · obtain rfl : k = n := by omega
      go_wp2
      go_ret
      exact ⟨rfl, HB.out⟩

end Go.Proofs.YtomfgjbicpeggaaGreat

namespace Go.Proofs.YtomfgjbicpeggaaGreat
open Go.RowKit

def cntT (f : Int → Nat) (p : List Int) (c : Nat) : Int := ((p.filter fun x => f x == c).length : Int)
def rowT (f : Int → Nat) (p : List Int) : List Int := [cntT f p 0, cntT f p 1]
def sidesV (W H : Int) (xs : List Int) (a b : Int) : List (List Int) := if okTwo W H xs a b = true then (partsL W H xs a b).map (rowT (fTwo W H xs a b)) else []
theorem wpList_appT {ops : Array Oper} {rest : List Oper} {o : Oper} {a : Act} {Q : Exit → Act → World → Prop} {w : World} (gx : Nat) (hgx : gx = w.heap.size) (hgd : o.guard = none) (s x : Operand)
    (ho : o.op = .call { callee := .builtin .append, args := #[s, x], argTypes := #[28, 28] }) (lo top : Nat) (A : Option Addr) (n c : Nat) (ps : List (List Int)) (A3 : Option Addr) (n3 c3 : Nat) (p : List Int)
    (hs : a.eval s = .slice A n c) (hown : PartsAt w lo top A n c ps) (hp : OwnI 3 w lo A3 n3 c3 p) (hpn : ∀ y, A3 = some y → top ≤ y.block) (htop : top ≤ w.heap.size)
    (hx : a.eval x = .slice (some ⟨gx, 0, none⟩) 1 1) (hn : n ≤ 100000) (hlo : lo ≤ w.heap.size)
    (h : ∀ A' c' w', PartsAt w' lo w.heap.size A' (n + 1) c' (ps ++ [p]) → Below lo w w' → wpList Tryz.prog ops Q rest (a.put o.dst (.slice A' (n + 1) c')) w') :
    wpList Tryz.prog ops Q (o :: rest) a (w.alloc (.cells #[.slice A3 n3 c3] 22)) := by
  subst hgx
  exact wpList_appS hgd s x ho lo top A n c ps A3 n3 c3 p hs hown hp hpn htop hx hn hlo (fun A' c' w' h1 h2 _ _ _ => h A' c' w' h1 h2)
theorem own_twoT (w : World) (x y : Int) (lo : Nat) (h : lo ≤ w.heap.size) : OwnI 3 (w.alloc (.cells #[.int .i64 x, .int .i64 y] 3)) lo (some ⟨w.heap.size, 0, none⟩) 2 2 [x, y] :=
  World.ownsRow_lit (base := lo) (e := 3) w (#[.int .i64 x, .int .i64 y] : Array Value) 2 (size := 1) h (by decide) rfl

theorem cntT_snoc (f : Int → Nat) (p : List Int) (x : Int) (c : Nat) : cntT f (p ++ [x]) c = cntT f p c + if f x = c then 1 else 0 := by
  unfold cntT
  rw [List.filter_append]
  by_cases h : f x = c
  · simp [h]
  · simp [h]
theorem cntT_le (f : Int → Nat) (p : List Int) (c : Nat) : 0 ≤ cntT f p c ∧ cntT f p c ≤ p.length := by
  unfold cntT
  have := List.length_filter_le (fun x => f x == c) p
  omega

set_option maxRecDepth 100000 in
set_option maxHeartbeats 4000000 in
theorem spec_SidesOfParts (W H : Int) (A : Option Addr) (n c : Nat) (xs : List Int) (a b : Int) (w : World) (ha : Rd w A n xs) :
    Calls Tryz.prog 5 #[brd W H A n c, lpr a b] w fun e w' => ∃ A' n' c', e = .returned (.tuple #[.slice A' n' c', .bool (okTwo W H xs a b)]) ∧ OwnSS w' w.heap.size w'.heap.size A' n' c' (sidesV W H xs a b) ∧ Below w.heap.size w w' := by
  by_cases ht : (goodB W H xs && leaperB a b) = true
  · have hok : okTwo W H xs a b = true := by rw [okTwo, two_l ht, two_g ht]; rfl
    have FO := on_facts hok
    obtain ⟨N, hN⟩ : ∃ N, N = (W * H).toNat := ⟨_, rfl⟩
    rw [← hN] at FO
    have HF := Lib.hid FO
    have HOK := Lib.hid hok
    have n64 := FO.n.2
    clear FO hN
    go_enter Tryz.func5, Tryz.ntmps5
    go_wp2_with fail
    refine (boTwo_any _ _ _ _ _ _ _ _ _ ((ha.alloc _).alloc _)).mono ?_
    rw [ht]
    rintro e wv ⟨rfl, hb⟩
    have hbx0 := below_box hb
    have a0 : wv.cell? ⟨w.heap.size, 0, none⟩ = some (.int .i64 W) := by simpa using newbox hbx0 0
    have a1 : wv.cell? ⟨w.heap.size, 1, none⟩ = some (.int .i64 H) := by simpa using newbox hbx0 1
    have a2 : wv.cell? ⟨w.heap.size, 2, none⟩ = some (.slice A n c) := by simpa using newbox hbx0 2
    have al : w.heap.size < wv.heap.size := by simpa using newbox_lt hbx0
    have l0 : wv.cell? ⟨w.heap.size + 1, 0, none⟩ = some (.int .i64 a) := by simpa using newbox hb 0
    have l1 : wv.cell? ⟨w.heap.size + 1, 1, none⟩ = some (.int .i64 b) := by simpa using newbox hb 1
    have ll : w.heap.size + 1 < wv.heap.size := by simpa using newbox_lt hb
    have B := Lib.hid (below_box hbx0)
    clear hb hbx0
    have n64 := HF.out.n.2
    go_wp2_with fail
    refine (paTwo_any W H A n c xs a b N _ (ha.keep B.out) HF.out).mono ?_
    rintro e w1 ⟨gc, rfl, hown, hb⟩
    replace a0 := cell_keep a0 al hb; replace a1 := cell_keep a1 al hb; replace a2 := cell_keep a2 al hb; replace l0 := cell_keep l0 ll hb; replace l1 := cell_keep l1 ll hb; replace al := lt_keep al hb; replace ll := lt_keep ll hb
    replace B := Lib.hid (below_next B.out hb)
    have OC := Lib.hid hown
    clear hb hown
    go_wp2_with fail
    refine (faParts_any W H A n c xs a b N _ (ha.keep B.out) HF.out).mono ?_
    rintro e wx ⟨A', n', c', top, rfl, pa, hb⟩
    replace OC := Lib.hid (OC.out.keep hb)
    replace B := Lib.hid (below_next B.out hb)
    have PA := Lib.hid pa
    obtain ⟨hTL, hTP⟩ := two_parts HF.out
    have HTL := Lib.hid hTL; have HTP := Lib.hid hTP
    have hpl := pa.len
    have hpn : n' ≤ 64 := by
      have h1 := partsTo_len W H xs a b (cellsL W H xs).length
      rw [partsTo, List.take_length] at h1
      have h2 := cellsTo_len (W := W) (H := H) (hs := xs) (W * H).toNat
      have h3 := HF.out.wh
      have h4 : (cellsL W H xs).length ≤ (W * H).toNat := h2
      have h5 : (partsL W H xs a b).length ≤ (cellsL W H xs).length := h1
      omega
    have ANS := Lib.hid (show sidesV W H xs a b = (partsL W H xs a b).map (rowT (fTwo W H xs a b)) by rw [sidesV, if_pos HOK.out])
    have HFF := Lib.hid (show ∀ q : Nat, fTwo W H xs a b (q : Int) = ((twoL W H xs a b).getD q (-1)).toNat from fun q => by rw [fTwo, Int.toNat_natCast])
    obtain ⟨f, hf⟩ : ∃ f, f = fTwo W H xs a b := ⟨_, rfl⟩
    obtain ⟨ps, hps⟩ : ∃ ps, ps = partsL W H xs a b := ⟨_, rfl⟩
    rw [← hf] at ANS HFF
    rw [← hps] at ANS PA HTP hpl
    have HPS := Lib.hid hps
    clear pa hb hTL hTP hf hps a0 a1 a2 l0 l1 al ll
    have hBs := B.out.size
    obtain ⟨i0, hi, hz0, hz1, hz2⟩ := info_parts infoI
    have HI := Lib.hid hi; have HZ0 := Lib.hid hz0; have HZ1 := Lib.hid hz1; have HZ2 := Lib.hid hz2
    clear hi hz0 hz1 hz2
    have hcb : Hid (gc < wx.heap.size) := Lib.hid (by obtain ⟨g9, h1, _, h2⟩ := OC.out.some_ (k := 0) (by have := HF.out.n; omega); injection h1 with h1; injection h1 with h1; omega)
    go_wp2
    go_loopw [8, 28] (fun v i wr => ∃ (k n2 c2 top2 : Nat) (A2 : Option Addr), k ≤ n' ∧ i = .int .i64 k ∧ v = .slice A2 n2 c2 ∧ PartsAt wr wx.heap.size top2 A2 n2 c2 ((ps.take k).map (rowT f)) ∧ top2 ≤ wr.heap.size ∧ Below wx.heap.size wx wr) (fun _ i _ => n' - (intOf i).toNat)
    case atStart => exact ⟨0, 0, 0, 0, none, by omega, rfl, rfl, PartsAt.none_ _ _ _, by omega, Below.refl _ _⟩
    case round =>
      obtain ⟨k, n2, c2, top2, A2, hk, rfl, rfl, hpo, htop, hbw⟩ := hrel
      have hsw := hbw.size
      obtain rfl : k = n2 := by have := hpo.len; rw [List.length_map, List.length_take] at this; omega
      have PO := Lib.hid hpo; have HBW := Lib.hid hbw
      clear hpo
      by_cases hlt : k < n'
      · obtain ⟨g, A9, n9, c9, p, rfl, hg1, hg2, hp, hpc, hown⟩ := PA.out.at_ hlt
        obtain ⟨c0, hc0, hpe, hhd, hcol⟩ := HTP.out p (List.mem_of_getElem? hp)
        have hpn2 : 0 < n9 := by have := hown.len; cases p with | nil => simp at hhd | cons y t => simp at this; omega
        obtain ⟨g9, rfl, hg3, hg4⟩ := hown.some_ hpn2
        have x0 := cell_keep hpc hg2 hbw
        have hp9 : n9 ≤ 64 := by
          rw [← hown.len, hpe, partL]
          have := selTo_len (nearB (distL W H xs a b c0) 64) (W * H).toNat
          have := HF.out.wh
          omega
        have hgl := hown.len
        have OWN := Lib.hid (hown.keep hbw); have HP := Lib.hid hp; have HCOL := Lib.hid hcol
        have OCW := Lib.hid (OC.out.keep hbw)
        clear hp hpc hown hcol hbw hpe hhd hc0
        go_wp2_with (at_make; refine wpList_make_full _ rfl _ _ 22 rfl wr.heap.size 3 i0 (.int .i64 0) 1 Tryz.underlying22 HI.out HZ0.out HZ1.out .i64 .i64 _ _ 2 rfl rfl rfl rfl (by rw [HZ2.out]; omega) (by unfold maxLen; omega) (by simp) ?_; intro w1 hown1 hg1)
        obtain ⟨rb, hrb⟩ : ∃ rb, rb = wr.heap.size := ⟨_, rfl⟩
        have hO1 : OwnI 3 w1 rb (some ⟨rb, 0, none⟩) 2 2 (rowT f (p.take 0)) := by
          have e : (madeCells (Value.cells (.int .i64 0)) 2).toList = List.replicate 2 (.int .i64 0) := toList_madeCells_one (.int .i64 0) 2
          rw [show 2 * 1 = 2 from rfl, e] at hown1
          rw [hrb]
          unfold OwnI
          simpa [rowT, cntT] using hown1
        have hb1 : Below wr.heap.size wr w1 := below_of_grown hg1 (Nat.le_refl _) (by simp)
        have x1 := cell_keep x0 (by omega) hb1
        have hs1 := hb1.size
        replace OWN := Lib.hid (OWN.out.keep hb1)
        replace OCW := Lib.hid (OCW.out.keep hb1)
        have hcb2 := hcb.out
        have HB1 := Lib.hid hb1
        have O1 := Lib.hid hO1
        rw [← hrb] at htop hsw hs1 ⊢
        have HRB := Lib.hid hrb
        have hgr : g < rb := by omega
        have hg9r : g9 < rb := by omega
        have hgcr : gc < rb := by omega
        clear hown1 hg1 hO1 hb1 hrb x0
        go_loopw [35] (fun i wy => ∃ j : Nat, j ≤ n9 ∧ i = .int .i64 j ∧ OwnI 3 wy rb (some ⟨rb, 0, none⟩) 2 2 (rowT f (p.take j)) ∧ w1.grownBy wy (some rb)) (fun i _ => n9 - (intOf i).toNat)
        case atStart => exact ⟨0, by omega, rfl, O1.out, grown_refl _ _⟩
        case round =>
          clear O1
          obtain ⟨j, hj, rfl, hrow, hgy⟩ := hrel
          by_cases hjl : j < n9
          · obtain ⟨x, hx⟩ : ∃ x, p[j]? = some x := ⟨_, List.getElem?_eq_getElem (show j < p.length by omega)⟩
            obtain ⟨hxN, hxc, -, -⟩ := HCOL.out x (List.mem_of_getElem? hx)
            obtain ⟨q, rfl⟩ : ∃ q : Nat, x = (q : Int) := ⟨x.toNat, by omega⟩
            rw [Int.toNat_natCast] at hxc
            have z0 := hgy.cell (OWN.out.cell hx) (by simp; omega)
            obtain ⟨v, hv⟩ : ∃ v, (twoL W H xs a b)[q]? = some v := ⟨_, List.getElem?_eq_getElem (by rw [HTL.out]; omega)⟩
            have hvd : (twoL W H xs a b).getD q (-1) = v := by rw [List.getD_eq_getElem?_getD, hv]; rfl
            have v0 := hgy.cell (OCW.out.cell hv) (by simp; omega)
            have hfq := HFF.out q
            rw [hvd] at hxc hfq
            have hq0 : (0 : Int) ≤ (q : Int) := by omega
            have hq1 : (q : Int) < (N : Int) := by omega
            have hpj : p.take (j + 1) = p.take j ++ [(q : Int)] := by rw [List.take_add_one, hx]; rfl
            have hl0 := cntT_le f (p.take j) 0
            have hl1 := cntT_le f (p.take j) 1
            have hlj : (p.take j).length ≤ 64 := by rw [List.length_take]; omega
            have f0 := hrow.frozen 0
            have f1 := hrow.frozen 1
            have r0 := hrow.cell (k := 0) (x := cntT f (p.take j) 0) rfl
            have r1 := hrow.cell (k := 1) (x := cntT f (p.take j) 1) rfl
            have hn0 : rowT f (p.take (j + 1)) = [cntT f (p.take j) 0 + (if f (q : Int) = 0 then 1 else 0), cntT f (p.take j) 1 + (if f (q : Int) = 1 then 1 else 0)] := by
              rw [hpj, rowT, cntT_snoc, cntT_snoc]
            rcases hxc with rfl | rfl
            · have hfq0 : f (q : Int) = 0 := by rw [hfq]; rfl
              obtain ⟨o1, g1⟩ := hrow.stored 0 (cntT f (p.take j) 0 + 1)
              have e1 : (rowT f (p.take j)).set 0 (cntT f (p.take j) 0 + 1) = rowT f (p.take (j + 1)) := by rw [hn0, hfq0]; simp [rowT]
              rw [e1] at o1
              have O2 := Lib.hid o1; have G2 := Lib.hid (grown_next hgy g1)
              clear hx hv hvd hfq hpj hn0 hrow hgy o1 g1 e1
              generalize cntT f (p.take j) 0 = u0 at *
              generalize cntT f (p.take j) 1 = u1 at *
              go_wp2
              go_roundw
              case rel => exact ⟨j + 1, by omega, by go_num, O2.out, G2.out⟩
              case measure => simp [intOf]; omega
            · have hfq1 : f (q : Int) = 1 := by rw [hfq]; rfl
              obtain ⟨o1, g1⟩ := hrow.stored 1 (cntT f (p.take j) 1 + 1)
              have e1 : (rowT f (p.take j)).set 1 (cntT f (p.take j) 1 + 1) = rowT f (p.take (j + 1)) := by rw [hn0, hfq1]; simp [rowT]
              rw [e1] at o1
              have O2 := Lib.hid o1; have G2 := Lib.hid (grown_next hgy g1)
              clear hx hv hvd hfq hpj hn0 hrow hgy o1 g1 e1
              generalize cntT f (p.take j) 0 = u0 at *
              generalize cntT f (p.take j) 1 = u1 at *
              go_wp2
              go_roundw
              case rel => exact ⟨j + 1, by omega, by go_num, O2.out, G2.out⟩
              case measure => simp [intOf]; omega
          · obtain rfl : j = n9 := by omega
            have eP : p.take j = p := List.take_of_length_le (by omega)
            rw [eP] at hrow
            have hb2 : Below rb w1 wr := below_of_grown hgy hs1 (fun g h => by injection h with h; omega)
            have hb3 := HB1.out.trans (by rw [← HRB.out]; exact hb2)
            have PO4 := Lib.hid (PO.out.keep hb3)
            have ORW := Lib.hid (hrow.lower hsw)
            have HPN := Lib.hid (show ∀ y, some (⟨rb, 0, none⟩ : Addr) = some y → top2 ≤ y.block from fun y hy => by injection hy with hy; rw [← hy]; exact htop)
            have hs3 := hb3.size
            rw [← HRB.out] at hs3
            have HB3 := Lib.hid (HBW.out.trans (hb3.mono HBW.out.size))
            have hpk : Hid ((ps.take (k + 1)).map (rowT f) = (ps.take k).map (rowT f) ++ [rowT f p]) := Lib.hid (by rw [List.take_add_one, HP.out]; simp)
            have hlo : wx.heap.size ≤ wr.heap.size := by omega
            have htw : top2 ≤ wr.heap.size := by omega
            clear hrow hgy hb2 hb3
            go_wp2_with (at_builtin; refine wpList_appS rfl (.tmp 49) (.tmp 51) rfl wx.heap.size top2 A2 k c2 ((ps.take k).map (rowT f)) (some ⟨rb, 0, none⟩) 2 2 (rowT f p) rfl PO4.out ORW.out HPN.out htw rfl (by omega) hlo ?_; intro A7 c7 w7 hpa7 hb7 kB kM kI)
            have PA7 := Lib.hid hpa7
            have hs7 := hb7.size
            have HB7 := Lib.hid (HB3.out.trans hb7)
            clear hpa7 hb7 kB kM kI
            go_wp2
            go_roundw
            case rel => exact ⟨k + 1, k + 1, c7, wr.heap.size, A7, by omega, by go_num, rfl, by rw [hpk.out]; exact PA7.out, hs7, HB7.out⟩
            case measure => simp [intOf]; omega
      · obtain rfl : k = n' := by omega
        have eT : (ps.take k).map (rowT f) = sidesV W H xs a b := by rw [ANS.out, List.take_of_length_le (by omega)]
        have PO2 := Lib.hid (show PartsAt wr wx.heap.size top2 A2 k c2 (sidesV W H xs a b) by rw [← eT]; exact PO.out)
        clear hbw
        go_wp2
        go_ret2
        exact ⟨_, _, _, by rw [HOK.out]; rfl, OwnSS.of (PO2.out.lower hBs), B.out.trans (HBW.out.mono hBs)⟩
  · have ht' : (goodB W H xs && leaperB a b) = false := by simpa using ht
    go_enter Tryz.func5, Tryz.ntmps5
    go_wp2_with fail
    refine (boTwo_any _ _ _ _ _ _ _ _ _ ((ha.alloc _).alloc _)).mono ?_
    rw [ht']
    rintro e wv ⟨rfl, hb⟩
    have hbx0 := below_box hb
    have a0 : wv.cell? ⟨w.heap.size, 0, none⟩ = some (.int .i64 W) := by simpa using newbox hbx0 0
    have a1 : wv.cell? ⟨w.heap.size, 1, none⟩ = some (.int .i64 H) := by simpa using newbox hbx0 1
    have a2 : wv.cell? ⟨w.heap.size, 2, none⟩ = some (.slice A n c) := by simpa using newbox hbx0 2
    have al : w.heap.size < wv.heap.size := by simpa using newbox_lt hbx0
    have l0 : wv.cell? ⟨w.heap.size + 1, 0, none⟩ = some (.int .i64 a) := by simpa using newbox hb 0
    have l1 : wv.cell? ⟨w.heap.size + 1, 1, none⟩ = some (.int .i64 b) := by simpa using newbox hb 1
    have ll : w.heap.size + 1 < wv.heap.size := by simpa using newbox_lt hb
    have B := Lib.hid (below_box hbx0)
    clear hb hbx0
    go_wp2
    go_ret2
    exact ⟨none, 0, 0, by rw [show okTwo W H xs a b = false by (rw [okTwo, Bool.and_comm, ht'])]; rfl, by rw [sidesV, if_neg (by rw [show okTwo W H xs a b = false by (rw [okTwo, Bool.and_comm, ht'])]; simp)]; exact OwnSS.of (PartsAt.none_ _ _ 0), B.out⟩

end Go.Proofs.YtomfgjbicpeggaaGreat
