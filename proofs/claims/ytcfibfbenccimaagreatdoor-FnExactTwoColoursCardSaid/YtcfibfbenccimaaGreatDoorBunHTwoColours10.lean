/-
  Contracts: the parts, in the program.
  Contracts: the parts of a board, in the program.
  Contracts: two colours by parts, in the program.
  Contracts: whether no leap joins two cells of one colour, in the model (no table is read).
  Two colours by parts are a painting, in plain terms: no leap joins two cells of one colour.
  Contracts: two colours by parts, in the model.
-/
import Derived.Test.YtcfibfbenccimaaGreatDoorBunHTwoColours9
import Derived.Test.YtcfibfbenccimaaGreatDoorBunHTwoColours8
import Derived.Test.YtcfibfbenccimaaGreatDoorBunHTwoColours7
import Derived.Deep.RegionHeld3
namespace Go.Proofs.YtcfibfbenccimaaGreatDoor
open Go.RowKit

theorem zero_bool : ∀ w, (zeroValue 4).run Tryz.prog w = .ok (.bool false) w := fun _ => by kernel_rfl
def partG (adj : Int → List Int) (c : Int) : List Int := reachL (farL adj 144 c)
theorem partG_len (adj : Int → List Int) (c : Int) : (partG adj c).length ≤ 144 := by unfold partG reachL; exact selTo_len _ _
theorem partG_in {adj : Int → List Int} {c y : Int} (h : y ∈ partG adj c) : 0 ≤ y ∧ y ≤ 144 := by
  unfold partG reachL at h
  obtain ⟨i, hi, _, e⟩ := selTo_mem.1 h
  omega
theorem farG_bd {cells : List Int} {adj : Int → List Int} {c : Int} (hcl : ∀ x ∈ cells, 0 ≤ x ∧ x < 144) (hadj : ∀ x, ∀ y ∈ adj x, y ∈ cells) (hc : c ∈ cells) : (farL adj 144 c).length = 144 ∧ ∀ x ∈ farL adj 144 c, -1 ≤ x ∧ x ≤ 144 := by
  have h := bfs_ok (adj := adj) (N := 144) (start := c) (by have := hcl c hc; omega) (fun c _ x hx => by have := hcl x (hadj c x hx); omega) 144
  refine ⟨h.len, fun x hx => ?_⟩
  obtain ⟨i, hi, rfl⟩ := List.getElem_of_mem hx
  have := h.lo i _ (List.getElem?_eq_getElem hi)
  omega

set_option maxRecDepth 100000 in
set_option maxHeartbeats 4000000 in
theorem parts_any (cells : List Int) (adj : Int → List Int) (lo0 mo : Nat) (w : World) (hom : OnMapK w lo0 mo cells adj) (hc : cells.Pairwise (· < ·)) (hcl : ∀ x ∈ cells, 0 ≤ x ∧ x < 144) (hadj : ∀ x, ∀ y ∈ adj x, y ∈ cells) (hn : cells.length ≤ 144) :
    Calls Tryz.prog 73 #[.map (some mo)] w fun e w' => ∃ A' n' c' top, e = .returned (.slice A' n' c') ∧ PartsAt w' w.heap.size top A' n' c' (gAll (partG adj) cells) ∧ Below w.heap.size w w' := by
  have HOM := Lib.hid hom; have HN := Lib.hid hn; have HC := Lib.hid hc; have HCL := Lib.hid hcl; have HADJ := Lib.hid hadj
  clear hom hc hcl hadj hn
  obtain ⟨W2, hW2⟩ : ∃ W2, W2 = w.alloc (.map #[] 0) := ⟨_, rfl⟩
  have hsz : W2.heap.size = w.heap.size + 1 := by rw [hW2]; simp
  have B := Lib.hid (show Below w.heap.size w W2 by rw [hW2]; exact below_new (Below.refl _ _) _)
  have MP := Lib.hid (show MapI Tryz.prog 3 W2 w.heap.size 0 (.bool false) (fun _ => .bool false) by rw [hW2]; exact MapI.made _ _ _ _)
  have hmm := @run_makeMap Tryz.prog
  go_enter Tryz.func73, Tryz.ntmps73
  go_wp2_with fail
  rw [← hW2]
  obtain ⟨mb, hmb⟩ : ∃ mb, mb = w.heap.size := ⟨_, rfl⟩
  rw [← hmb] at MP ⊢
  have hmb2 : mb < W2.heap.size := by omega
  have HMB := Lib.hid hmb
  clear hW2 hmm hmb hsz
  refine (cells_any lo0 mo cells adj _ (HOM.out.keep B.out) HC.out).mono ?_
  rintro e ws ⟨A1, n1, c1, rfl, hst, hb⟩
  replace MP := Lib.hid (MP.out.keep hb)
  have hs1 := hb.size
  have hms : mb < ws.heap.size := lt_keep hmb2 hb
  replace B := Lib.hid (below_next B.out hb)
  have hBs := B.out.size
  have ST := Lib.hid hst.rd
  have SL := Lib.hid hst.len
  have n8 : n1 ≤ 144 := by have := hst.len; have := HN.out; omega
  have hA1 : Hid (∀ y, A1 = some y → y.block ≠ mb) := Lib.hid (fun y hy => by
    subst hy
    exact map_apart hst MP.out)
  have n9 := hst.rd.2.1
  clear hst hb hmb2
  go_wp2
  go_loopw [3, 14] (fun v i wr => ∃ (k n' c' top m : Nat) (A' : Option Addr) (f : Int → Value), k ≤ n1 ∧ i = .int .i64 k ∧ v = .slice A' n' c' ∧ PartsAt wr ws.heap.size top A' n' c' (gTo (partG adj) cells k) ∧ top ≤ wr.heap.size ∧ m ≤ 144 * k ∧ MapI Tryz.prog 3 wr mb m (.bool false) f ∧ (∀ x, f x = .bool (inParts (gTo (partG adj) cells k) x)) ∧ ws.grownBy wr (some mb)) (fun _ i _ => n1 - (intOf i).toNat)
  case atStart => exact ⟨0, 0, 0, 0, 0, none, _, by omega, rfl, rfl, PartsAt.none_ _ _ _, by omega, by omega, MP.out, fun x => rfl, grown_refl _ _⟩
  case round =>
    clear MP
    obtain ⟨k, n', c', top, m, A', f, hk, rfl, rfl, hpa, htop, hm, hmap, hf, hgw⟩ := hrel
    have hBw : Below w.heap.size w wr := B.out.trans (below_of_grown hgw hBs (fun g h => by injection h with h; have := HMB.out; omega))
    have hsw := hgw.size
    have hnp : n' ≤ 144 := by have := gTo_len (partG adj) cells k; have := hpa.len; omega
    have PA := Lib.hid hpa; have MA := Lib.hid hmap; have FF := Lib.hid hf
    by_cases hlt : k < n1
    · obtain ⟨bb, oo, x, rfl, hg1, hx, x0⟩ := ST.out.at_ hlt
      have hbm := hA1.out _ rfl
      simp only at hbm
      have hin := List.mem_of_getElem? hx
      have hxr := HCL.out _ hin
      obtain ⟨xn, rfl⟩ : ∃ xn : Nat, x = (xn : Int) := ⟨x.toNat, by omega⟩
      have hxn : xn < 144 := by omega
      have HX := Lib.hid hx; have HXI := Lib.hid hin
      replace x0 := hgw.cell x0 (by simp; omega)
      have HBW := Lib.hid hBw; have HGW := Lib.hid hgw
      have hlk := fun w' (h : MapI Tryz.prog 3 w' mb m (.bool false) f) => MapI.lookup (t := 106) (e := 4) h Tryz.underlying3 Tryz.underlying106 (zero_bool w') (wf_small (x := (xn : Int)) (by omega))
      have hl0 := hlk wr hmap
      rw [hf] at hl0
      clear hx hin hxr hgw hBw hpa hmap hf hlk
      cases hip : inParts (gTo (partG adj) cells k) (xn : Int) with
      | true =>
        rw [hip] at hl0
        have HIP := Lib.hid hip
        clear hip
        go_wp2
        go_roundw
        case rel =>
          have e := gTo_yes HX.out HIP.out
          exact ⟨k + 1, n', c', top, m, A', f, by omega, by go_num, rfl, by rw [e]; exact PA.out, htop, by omega, MA.out, by rw [e]; exact FF.out, HGW.out⟩
        case measure => simp [intOf]; omega
      | false =>
        rw [hip] at hl0
        have HIP := Lib.hid hip
        clear hip
        go_wp2_with fail
        clear hl0
        refine (distancesFrom_any lo0 mo cells adj xn _ (HOM.out.keep HBW.out).on (by omega) HXI.out HCL.out HADJ.out).mono ?_
        rintro e wu ⟨rfl, hb⟩
        obtain ⟨h64, hbd⟩ := farG_bd HCL.out HADJ.out HXI.out
        replace PA := Lib.hid (PA.out.keep hb); replace MA := Lib.hid (MA.out.keep hb)
        have htu := hb.size
        replace HGW := Lib.hid (grown_next HGW.out (grown_of_below hb (some mb)))
        clear hb
        go_wp2_with fail
        refine (reached_any _ h64 hbd _).mono ?_
        rintro e wv ⟨A9, n9', c9, rfl, own, hb⟩
        rw [show reachL (farL adj 144 (xn : Int)) = partG adj (xn : Int) from rfl] at own
        have hpn : Hid (∀ y, A9 = some y → top ≤ y.block ∧ y.block < wv.heap.size) := Lib.hid (fun y hy => by
          rcases own.form with ⟨h, _⟩ | ⟨g9, h, h2, h3, _⟩
          · rw [h] at hy; cases hy
          · rw [h] at hy; injection hy with hy; rw [← hy]; exact ⟨by show top ≤ g9; omega, h3⟩)
        replace PA := Lib.hid (PA.out.keep hb); replace MA := Lib.hid (MA.out.keep hb)
        have htv := hb.size
        replace HGW := Lib.hid (grown_next HGW.out (grown_of_below hb (some mb)))
        have OWN := Lib.hid (own.lower (show ws.heap.size ≤ wu.heap.size by omega))
        have PRD := Lib.hid own.rd
        have hp64 : n9' ≤ 144 := by have := partG_len adj (xn : Int); have := own.len; omega
        have hp9 := own.rd.2.1
        have hAm : Hid (∀ y, A9 = some y → y.block ≠ mb) := Lib.hid (fun y hy => by subst hy; exact map_apart own MA.out)
        have hbig : top ≤ wv.heap.size := by omega
        obtain ⟨p, hp⟩ : ∃ p, p = partG adj (xn : Int) := ⟨_, rfl⟩
        rw [← hp] at OWN PRD
        have HP := Lib.hid hp
        clear hb own hbd h64 hp x0
        go_wp2
        go_loopw [27] (fun i wr => ∃ (j m2 : Nat) (f2 : Int → Value), j ≤ n9' ∧ i = .int .i64 j ∧ m2 ≤ 144 * k + j ∧ MapI Tryz.prog 3 wr mb m2 (.bool false) f2 ∧ (∀ x, f2 x = .bool (inParts (gTo (partG adj) cells k) x || (p.take j).contains x)) ∧ wv.grownBy wr (some mb)) (fun i _ => n9' - (intOf i).toNat)
        case atStart => exact ⟨0, m, f, by omega, rfl, by omega, MA.out, fun x => by rw [FF.out x]; simp, grown_refl _ _⟩
        case round =>
          obtain ⟨j, m2, f2, hj, rfl, hm2, hmap, hf, hgx⟩ := hrel
          have hsx := hgx.size
          by_cases hjl : j < n9'
          · obtain ⟨b9, o9, y, rfl, hg9, hy, y0⟩ := PRD.out.at_ hjl
            have hbm9 := hAm.out _ rfl
            simp only at hbm9
            replace y0 := hgx.cell y0 (by simp; omega)
            have hyr : 0 ≤ y ∧ y ≤ 144 := partG_in (by have hm := List.mem_of_getElem? hy; rwa [HP.out] at hm)
            have HY := Lib.hid hy; have MB := Lib.hid hmap; have F2 := Lib.hid hf; have HGX := Lib.hid hgx
            have HYR := Lib.hid hyr
            clear hy hmap hf hgx hyr
            go_wp2_with (at_mapUpdate; refine wpList_update rfl (.tmp 31) (.tmp 32) (.const (.bool true)) rfl Tryz.underlying3 Tryz.underlying106 rfl MB.out (by omega) y (.bool true) rfl rfl (wf_small HYR.out) ?_; intro w5 hm5 hg5)
            have M5 := Lib.hid hm5; have G5 := Lib.hid (grown_next HGX.out hg5)
            clear hm5 hg5
            go_wp2
            go_roundw
            case rel => exact ⟨j + 1, m2 + 1, _, by omega, by go_num, by omega, M5.out, fun x => by
              show (if x = y then Value.bool true else f2 x) = _
              rw [take_contains HY.out, F2.out x]
              by_cases e : x = y
              · rw [if_pos e, if_pos e]; simp
              · rw [if_neg e, if_neg e], G5.out⟩
            case measure => simp [intOf]; omega
          · obtain rfl : j = n9' := by omega
            have PA8 := Lib.hid (PA.out.maps MA.out hgx)
            have OWN8 := Lib.hid (OWN.out.other hgx (fun y hy => by have := hAm.out y hy; simpa using this))
            have MB := Lib.hid hmap; have F2 := Lib.hid hf
            have HG8 := Lib.hid (grown_next HGW.out hgx)
            have hpt : p.take j = p := List.take_of_length_le (by have := OWN.out.len; omega)
            have HPT := Lib.hid hpt
            have hpn2 : Hid (∀ y, A9 = some y → top ≤ y.block) := Lib.hid (fun y hy => (hpn.out y hy).1)
            have htx : top ≤ wr.heap.size := by omega
            have hlo : ws.heap.size ≤ wr.heap.size := by omega
            clear hmap hf hgx hpt
            go_wp2_with (at_builtin; refine wpList_appS rfl (.tmp 34) (.tmp 36) rfl ws.heap.size top A' n' c' (gTo (partG adj) cells k) A9 j c9 p rfl PA8.out OWN8.out hpn2.out htx rfl (by omega) hlo ?_; intro A7 c7 w7 hpa7 hb7 kB kM kI)
            have PA7 := Lib.hid hpa7
            have M7 := Lib.hid (kM _ _ _ _ _ _ MB.out)
            have HG7 := Lib.hid (grown_below HG8.out hb7)
            have hs7 := hb7.size
            clear hpa7 hb7 kB kM kI
            go_wp2
            go_roundw
            case rel =>
              have e := gTo_no HX.out HIP.out
              rw [← HP.out] at e
              exact ⟨k + 1, n' + 1, c7, _, m2, A7, f2, by omega, by go_num, rfl, by rw [e]; exact PA7.out, hs7, by omega, M7.out, fun x => by rw [F2.out x, HPT.out, e, inParts_app], HG7.out⟩
            case measure => simp [intOf]; omega
    · obtain rfl : k = n1 := by omega
      have eP : gTo (partG adj) cells k = gAll (partG adj) cells := by rw [gTo, List.take_of_length_le (by have := SL.out; omega)]; rfl
      rw [eP] at PA
      have HBW := Lib.hid hBw
      clear hgw hBw hpa hmap hf MA FF
      go_wp2
      go_ret
      have hmb := HMB.out
      subst hmb
      exact ⟨_, _, _, _, rfl, PA.out.lower (by omega), HBW.out⟩

end Go.Proofs.YtcfibfbenccimaaGreatDoor

namespace Go.Proofs.YtcfibfbenccimaaGreatDoor
open Go.RowKit

theorem partG_same {W H a b c : Int} {xs : List Int} {N : Nat} (h : OnFacts W H xs a b N) (hp : hasB W H xs c = true) : partG (leapsL W H xs a b) c = partL W H xs a b c := by
  have key : ∀ i, decide (0 ≤ (distL W H xs a b c).getD i (-1)) = nearB (distL W H xs a b c) 64 i := fun i => by
    by_cases hi : i < (distL W H xs a b c).length
    · rw [part_bd h hp (List.getElem?_eq_getElem hi), List.getD_eq_getElem?_getD, List.getElem?_eq_getElem hi]; rfl
    · rw [nearB, List.getD_eq_getElem?_getD, List.getElem?_eq_none (by omega)]; rfl
  rw [partG, reachL, partL, show (W * H).toNat = N by have := h.wh; omega, far64 h hp]
  rw [selTo_congr 144 (g := nearB (distL W H xs a b c) 64) (fun i _ => by rw [getD_pad]; exact key i)]
  exact selTo_stop (fun i hi => by rw [nearB, List.getD_eq_getElem?_getD, List.getElem?_eq_none (by rw [dist_len h hp]; exact hi)]; rfl) (by have := h.n; omega)
theorem fold_parts {P Q : Int → List Int} : ∀ (l : List Int) (ps : List (List Int)), (∀ c ∈ l, P c = Q c) → l.foldl (partStep P) ps = l.foldl (partStep Q) ps
  | [], _, _ => rfl
  | c :: t, ps, h => by
    rw [List.foldl_cons, List.foldl_cons, fold_parts t _ (fun d hd => h d (List.mem_cons_of_mem _ hd)), show partStep P ps c = partStep Q ps c by rw [partStep, partStep, h c List.mem_cons_self]]
theorem partsL_same {W H a b : Int} {xs : List Int} {N : Nat} (h : OnFacts W H xs a b N) : gAll (partG (leapsL W H xs a b)) (cellsL W H xs) = partsL W H xs a b :=
  fold_parts _ [] (fun _ hc => partG_same h (cellsL_mem.1 hc))
theorem cellsL_few {W H a b : Int} {xs : List Int} {N : Nat} (h : OnFacts W H xs a b N) : (cellsL W H xs).length ≤ 64 := by
  have h1 := cellsTo_len (W := W) (H := H) (hs := xs) (W * H).toNat
  have := h.wh; have := h.n
  unfold cellsL; omega
theorem partsB_any (W H : Int) (xs : List Int) (a b : Int) (N lo0 mo : Nat) (w : World) (hF : OnFacts W H xs a b N) (hom : OnMapK w lo0 mo (cellsL W H xs) (leapsL W H xs a b)) :
    Calls Tryz.prog 73 #[.map (some mo)] w fun e w' => ∃ A' n' c' top, e = .returned (.slice A' n' c') ∧ PartsAt w' w.heap.size top A' n' c' (partsL W H xs a b) ∧ Below w.heap.size w w' := by
  have h := parts_any (cellsL W H xs) (leapsL W H xs a b) lo0 mo w hom (cellsL_pairwise W H xs) (cells_in hF) adj_in (by have := cellsL_few hF; omega)
  rw [partsL_same hF] at h
  exact h

end Go.Proofs.YtcfibfbenccimaaGreatDoor

namespace Go.Proofs.YtcfibfbenccimaaGreatDoor
open Go.RowKit Go.Shelf
attribute [local go_sem] Oper.semAt_some

def fTwo (W H : Int) (xs : List Int) (a b : Int) (x : Int) : Nat := ((twoL W H xs a b).getD x.toNat (-1)).toNat

theorem PartsAt.at_ {w : World} {lo top : Nat} {A : Option Addr} {n c k : Nat} {ps : List (List Int)} (h : PartsAt w lo top A n c ps) (hk : k < n) :
    ∃ g A9 n9 c9 p, A = some ⟨g, 0, none⟩ ∧ lo ≤ g ∧ g < w.heap.size ∧ ps[k]? = some p ∧ w.cell? ⟨g, k, none⟩ = some (.slice A9 n9 c9) ∧ OwnI 3 w lo A9 n9 c9 p := by
  obtain ⟨vs, h1, h2, h3, _, _⟩ := h
  obtain ⟨g, rfl, hg1, hg2⟩ := h1.some_ hk
  have hl := h1.len
  obtain ⟨v, hv⟩ : ∃ v, vs[k]? = some v := ⟨_, List.getElem?_eq_getElem (show k < vs.length by omega)⟩
  obtain ⟨p, hp⟩ : ∃ p, ps[k]? = some p := ⟨_, List.getElem?_eq_getElem (show k < ps.length by omega)⟩
  have hc := h1.cell (k := 1) (j := 0) (fun _ => rfl) hv rfl
  rw [Nat.mul_one, Nat.add_zero] at hc
  exact ⟨g, _, _, _, _, rfl, hg1, hg2, hp, hc, h3 k _ _ hv hp⟩

set_option maxRecDepth 100000 in
theorem dist_lay {w : World} {L : List Int} (hL : L.length = 144) {old : Array Value} (ho : old.size = 144) :
    (Instr.storeAt 84 (.pointer (some ⟨w.heap.size, 0, none⟩)) (.agg (L.map (Value.int .i64)).toArray)).run Tryz.prog (w.alloc (.cells old 84)) = .ok () (w.alloc (.cells (L.map (Value.int .i64)).toArray 84)) :=
  run_storeAt_new _ _ _ _ (by rw [infoDs]; simp [hL]) (by simp [hL, ho]) (all_oneCell_toArray (fun v hv => by obtain ⟨i, _, rfl⟩ := List.mem_map.1 hv; rfl))

set_option maxRecDepth 100000 in
set_option maxHeartbeats 4000000 in
theorem twoColours_any (W H : Int) (xs : List Int) (a b : Int) (N lo0 mo : Nat) (w : World) (hF : OnFacts W H xs a b N) (hom : OnMapK w lo0 mo (cellsL W H xs) (leapsL W H xs a b)) :
    Calls Tryz.prog 50 #[.map (some mo)] w fun e w' => e = .returned (.agg (words (paintF (fTwo W H xs a b) (partsL W H xs a b).flatten)).toArray) ∧ Below w.heap.size w w' := by
  obtain ⟨ps, hps⟩ : ∃ ps, ps = partsL W H xs a b := ⟨_, rfl⟩
  obtain ⟨f, hf⟩ : ∃ f, f = fTwo W H xs a b := ⟨_, rfl⟩
  rw [← hps, ← hf]
  have HFF := Lib.hid hf
  have HPS := Lib.hid hps
  clear hf
  have HF := Lib.hid hF
  have n64 := hF.n.2
  obtain ⟨W4, hW4⟩ : ∃ W4, W4 = (w.alloc (.cells nine0 64)).alloc (.cells nine0 64) := ⟨_, rfl⟩
  have hs4 : W4.heap.size = w.heap.size + 2 := by rw [hW4]; simp
  have hb4 : Below w.heap.size w W4 := by rw [hW4]; exact (below_new (Below.refl _ _) _).alloc (by simp) _
  have hr4 : W4.heap[w.heap.size]? = some (.cells nine0 64 (0, 0)) := by
    have h := World.alloc_heap_new w (.cells nine0 64)
    rw [hW4, Below.heap_alloc _ _ _ (by simp)]; exact h
  have hp4 : W4.heap[w.heap.size + 1]? = some (.cells nine0 64 (0, 0)) := by
    have h := World.alloc_heap_new (w.alloc (.cells nine0 64)) (.cells nine0 64)
    rw [hW4]; rw [World.size_alloc] at h; exact h
  have hpo := partsB_any W H xs a b N lo0 mo W4 hF (hom.keep hb4)
  rw [← hps] at hpo
  unfold nine0 at hW4
  go_enter Tryz.func50, Tryz.ntmps50
  go_wp2_with fail
  rw [← hW4]
  clear hW4
  refine hpo.mono ?_
  rintro e ws ⟨A', n', c', top, rfl, hpa, hb⟩
  have hp5 := (hb.block (w.heap.size + 1) (by omega)).trans hp4
  have hr5 := Lib.hid ((hb.block (w.heap.size) (by omega)).trans hr4)
  have hss := hb.size
  have HOM := Lib.hid hom
  have HB := Lib.hid (below_next hb4 hb)
  have PA := Lib.hid hpa
  obtain ⟨hTL, hTP⟩ := two_parts hF
  rw [← hps] at hTP
  have HTP := Lib.hid hTP
  have hn' : n' ≤ 64 := by
    have := hpa.len
    have h1 := partsTo_len W H xs a b (cellsL W H xs).length
    rw [partsTo, List.take_length] at h1
    have h2 := cellsTo_len (W := W) (H := H) (hs := xs) (W * H).toNat
    have h3 := hF.wh
    have h4 : (cellsL W H xs).length ≤ (W * H).toNat := h2
    have h5 : ps.length ≤ (cellsL W H xs).length := by rw [HPS.out]; exact h1
    omega
  have hpl := hpa.len
  have hmid : MidP ws (w.heap.size + 1) (paintF f (ps.take 0).flatten) ws := ⟨grown_refl _ _, by rw [List.take_zero, List.flatten_nil, paintF_nil, ← nine_words]; exact hp5⟩
  have HM := Lib.hid hmid
  clear hpa hb hb4 hpo hp4 hr4 hp5 hom hF hTP hmid hps
  go_wp2
  go_loopw [12] (fun i wr => ∃ k : Nat, k ≤ n' ∧ i = .int .i64 k ∧ MidP ws (w.heap.size + 1) (paintF f (ps.take k).flatten) wr) (fun i _ => n' - (intOf i).toNat)
  case atStart => exact ⟨0, Nat.zero_le _, rfl, HM.out⟩
  case round =>
    clear HM
    obtain ⟨k, hk, rfl, hmp⟩ := hrel
    have HMP := Lib.hid hmp
    have hsw := hmp.1.size
    by_cases hlt : k < n'
    · obtain ⟨g, A9, n9, c9, p, rfl, hg1, hg2, hp, hpc, hown⟩ := PA.out.at_ hlt
      obtain ⟨c0, hc0, hpe, hhd, hcol⟩ := HTP.out p (List.mem_of_getElem? hp)
      have hpn : 0 < n9 := by have := hown.len; cases p with | nil => simp at hhd | cons y t => simp at this; omega
      obtain ⟨g9, rfl, hg3, hg4⟩ := hown.some_ hpn
      have hx0 : p[0]? = some c0 := by rw [← hhd, List.head?_eq_getElem?]
      have x0 := hmp.1.cell hpc (by simp; omega)
      have y0 := hmp.1.cell (hown.cell hx0) (by simp; omega)
      have hcr := (hasB_iff.1 hc0).1
      rw [HF.out.wh] at hcr
      obtain ⟨s, rfl⟩ : ∃ s : Nat, c0 = (s : Int) := ⟨c0.toNat, by omega⟩
      have hwr := HB.out.grown hmp.1 HB.out.size (fun k e => by cases e; omega)
      have hD := distancesFrom_any lo0 mo (cellsL W H xs) (leapsL W H xs a b) s wr (HOM.out.keep hwr).on (by omega) (cellsL_mem.2 hc0) (cells_in HF.out) adj_in
      have hL := far_len64 HF.out hc0
      have HC0 := Lib.hid hc0
      have hfar := far64 HF.out hc0
      obtain ⟨L, hLL⟩ : ∃ L, L = farL (leapsL W H xs a b) 144 (s : Int) := ⟨_, rfl⟩
      rw [← hLL] at hD hL hfar
      have OWN := Lib.hid hown; have HP := Lib.hid hp; have HCOL := Lib.hid hcol; have HFAR := Lib.hid hfar; have HWR := Lib.hid hwr
      clear hmp hpc hown hcol hfar hp hwr hhd hc0 hLL hx0
      go_wp2_with fail
      refine hD.mono ?_
      rintro e wu ⟨rfl, hbu⟩
      have hgl := OWN.out.len
      have hp9 : n9 ≤ 64 := by
        rw [← hgl, hpe, partL]
        have := selTo_len (nearB (distL W H xs a b (s : Int)) 64) (W * H).toNat
        have := HF.out.wh
        omega
      have hsu := hbu.size
      have HMU := Lib.hid (midP_below (midP_below HMP.out hbu) ((Below.refl _ _).alloc (Nat.le_refl wu.heap.size) (.cells (L.map (Value.int .i64)).toArray 84)))
      have HDC := Lib.hid (cell_laid wu L 84)
      clear hbu x0 y0
      go_wp2_with (refine wpList_store64 L hL rfl _ _ rfl rfl rfl rfl _ _ rfl ?_)
      obtain ⟨wd, hwd⟩ : ∃ wd, wd = wu.heap.size := ⟨_, rfl⟩
      obtain ⟨W6, hW6⟩ : ∃ W6, W6 = wu.alloc (.cells (L.map (Value.int .i64)).toArray 84) := ⟨_, rfl⟩
      have hs6 : W6.heap.size = wd + 1 := by rw [hW6, hwd]; simp
      rw [← hW6] at HMU HDC ⊢
      rw [← hwd] at HDC hsu ⊢
      clear hW6 hwd
      go_wp2
      have hFn := Lib.hid (show (ps.take (k + 1)).flatten = (ps.take k).flatten ++ p by rw [List.take_add_one, HP.out]; simp)
      have HM0 := Lib.hid (show MidP ws (w.heap.size + 1) (paintF f ((ps.take k).flatten ++ p.take 0)) W6 by rw [List.take_zero, List.append_nil]; exact HMU.out)
      have hcells : Hid (∀ y ∈ (ps.take k).flatten ++ p, 0 ≤ y ∧ y < 64) := Lib.hid (fun y hy => by
        rcases List.mem_append.1 hy with hy | hy
        · obtain ⟨q, hq, hyq⟩ := List.mem_flatten.1 hy
          obtain ⟨_, _, _, _, h9⟩ := HTP.out q (List.mem_of_mem_take hq)
          have := (h9 y hyq).1; omega
        · have := (HCOL.out y hy).1; omega)
      obtain ⟨pre, hpre⟩ : ∃ pre, pre = (ps.take k).flatten := ⟨_, rfl⟩
      rw [← hpre] at HM0 hFn hcells
      have hs6w : ws.heap.size ≤ wd := by omega
      clear HMU hpre HMP hD
      go_loopw [23] (fun i wx => ∃ j : Nat, j ≤ n9 ∧ i = .int .i64 j ∧ MidP ws (w.heap.size + 1) (paintF f (pre ++ p.take j)) wx ∧ W6.grownBy wx (some (w.heap.size + 1))) (fun i _ => n9 - (intOf i).toNat)
      case atStart => exact ⟨0, by omega, rfl, HM0.out, grown_refl _ _⟩
      case round =>
        clear HM0
        obtain ⟨j, hj, rfl, hmj, hgj⟩ := hrel
        have gl := (Array.getElem?_eq_some_iff.1 hmj.2).1
        have hwx := HB.out.grown hmj.1 HB.out.size (fun k e => by cases e; omega)
        have HWX := Lib.hid hwx
        have HPR := Lib.hid hmj.2; have HG1 := Lib.hid hmj.1; have HGJ := Lib.hid hgj
        by_cases hjl : j < n9
        · obtain ⟨x, hx⟩ : ∃ x, p[j]? = some x := ⟨_, List.getElem?_eq_getElem (show j < p.length by omega)⟩
          have hxm := List.mem_of_getElem? hx
          obtain ⟨hxN, hxc, hxd, hxe⟩ := HCOL.out x hxm
          have z0 := hmj.1.cell (OWN.out.cell hx) (by simp; omega)
          obtain ⟨q, rfl⟩ : ∃ q : Nat, x = (q : Int) := ⟨x.toNat, by omega⟩
          rw [Int.toNat_natCast] at hxc hxd hxe
          obtain ⟨d, hd⟩ : ∃ d, d = (distL W H xs a b (s : Int)).getD q (-1) := ⟨_, rfl⟩
          have hLd : L.getD q 0 = d := by
            rw [HFAR.out, List.getD_eq_getElem?_getD, List.getElem?_append_left (by rw [dist_len HF.out HC0.out]; omega), hd, List.getD_eq_getElem?_getD, List.getElem?_eq_getElem (by rw [dist_len HF.out HC0.out]; omega)]; rfl
          have e0 := HDC.out q (by omega)
          rw [Nat.zero_add, hLd] at e0
          have d0 := hgj.cell e0 (by simp; omega)
          rw [← hd] at hxd hxe
          have hfq : f (q : Int) = ((twoL W H xs a b).getD q (-1)).toNat := by rw [HFF.out, fTwo, Int.toNat_natCast]
          have hf9 : f (q : Int) < 9 := by omega
          have hdm : Int.tmod d 2 = ((f (q : Int) : Nat) : Int) := by rw [Int.tmod_eq_emod_of_nonneg hxd, hxe, hfq]; omega
          have HW1 := Lib.hid (with_any (paintF f (pre ++ p.take j)) (paintF_len _ _) q (f (q : Int)) _ (by omega) hf9 (paintF_at hf9) (setBits_lt _ (fun i hi => by
            obtain ⟨y, hy, rfl⟩ := List.mem_map.1 hi
            have hy2 := (List.mem_filter.1 hy).1
            have := hcells.out y (by
              rcases List.mem_append.1 hy2 with h | h
              · exact List.mem_append_left _ h
              · exact List.mem_append_right _ (List.mem_of_mem_take h))
            omega)))
          have hnx : (paintF f (pre ++ p.take j)).set (f (q : Int)) (setBits (((pre ++ p.take j).filter fun z => f z == f (q : Int)).map Int.toNat) ||| 2 ^ q) = paintF f (pre ++ p.take (j + 1)) := by
            have h := paintF_snoc (f := f) (ys := pre ++ p.take j) (y := (q : Int))
            rw [Int.toNat_natCast] at h
            rw [h, List.take_add_one, hx, List.append_assoc]; rfl
          rw [hnx, ← hdm] at HW1
          obtain ⟨P, hP⟩ : ∃ P, P = paintF f (pre ++ p.take j) := ⟨_, rfl⟩
          obtain ⟨P1, hP1⟩ : ∃ P1, P1 = paintF f (pre ++ p.take (j + 1)) := ⟨_, rfl⟩
          have hPl : P.length = 9 := by rw [hP]; exact paintF_len _ _
          have hPl1 : P1.length = 9 := by rw [hP1]; exact paintF_len _ _
          rw [← hP] at HPR HW1
          rw [← hP1] at HW1
          have HP1 := Lib.hid hP1
          have hq0 : (0 : Int) ≤ (q : Int) := by omega
          have hq1 : (q : Int) < 144 := by omega
          have hq64 : q < 64 := by omega
          have hd65 : d ≤ 64 := by
            have := dist_lo HF.out HC0.out (i := q) (by omega)
            rw [← hd] at this; exact this.2
          clear hx hxm hnx hP hP1 hxN hxc hxe hd hLd e0 hfq hdm hmj hgj hwx
          have hPw : (words P).length = 9 := by simp [words, hPl]
          have hS9 : (words P1).length = 9 := by simp [words, hPl1]
          have hI8 : (Tryz.prog.info? 64).map (·.size) = some (words P1).length := by rw [info_painting, hS9]
          have HC9 := Lib.hid (show (words P).toArray.size = (words P1).length by rw [hS9]; simpa using hPw)
          have hO9 : ∀ v ∈ words P1, v.oneCell' = true := words_one _
          obtain ⟨y0, y1, y2, y3, y4, y5, y6, y7, y8, rfl⟩ := nine_of_len hPl
          obtain ⟨q0, q1, q2, q3, q4, q5, q6, q7, q8⟩ := nine_cells HPR.out
          go_wp2
          go_region_with (go_at_call 75; refine (HW1.out _).mono ?_; rintro e wv ⟨rfl, hb⟩; (try replace hb := below_undrew hb); replace HPR := Lib.hid ((hb.block (w.heap.size + 1) gl).trans HPR.out); replace HG1 := Lib.hid (grown_next HG1.out (grown_of_below hb _)); replace HGJ := Lib.hid (grown_next HGJ.out (grown_of_below hb _)); replace gl := lt_keep gl hb; clear hb; obtain ⟨q0, q1, q2, q3, q4, q5, q6, q7, q8⟩ := nine_cells HPR.out; have hst := store_row (P := Tryz.prog) (cs := words P1) HPR.out hI8 HC9.out hO9)
          all_goals go_wp2
          all_goals go_roundw
          all_goals (first | exact ⟨j + 1, by omega, by go_num, ⟨grown_next HG1.out (grown_setRow _ _ _), by rw [← HP1.out]; exact heap_setRow HPR.out⟩, grown_next HGJ.out (grown_setRow _ _ _)⟩ | (simp [intOf]; omega))
        · obtain rfl : j = n9 := by omega
          have eP : p.take j = p := List.take_of_length_le (by omega)
          rw [eP, ← hFn.out] at hmj
          have HMJ := Lib.hid hmj
          clear hmj hgj hwx HPR HG1 HGJ HWX
          go_wp2
          go_roundw
          case rel => exact ⟨k + 1, by omega, by go_num, HMJ.out⟩
          case measure => simp [intOf]; omega
    · obtain rfl : k = n' := by omega
      have eF : ps.take k = ps := List.take_of_length_le (by omega)
      rw [eF] at hmp
      have hrr := (hmp.1.block (w.heap.size) (by omega) (by simp)).trans hr5.out
      have hh5 := Lib.hid (heap_setRow (W := wr) (c' := (words (paintF f ps.flatten)).toArray) hrr)
      have hwr := HB.out.grown hmp.1 HB.out.size (fun k e => by cases e; omega)
      have hb5 := Lib.hid (hwr.grown (grown_setRow wr (w.heap.size) (words (paintF f ps.flatten)).toArray) hwr.size (fun k e => by cases e; omega))
      have hP9 := paintF_len f ps.flatten
      obtain ⟨P, hP⟩ : ∃ P, P = paintF f ps.flatten := ⟨_, rfl⟩
      rw [← hP] at hmp hh5 hb5 hP9
      have HPP := Lib.hid hP
      have HRG := Lib.hid (range_of_row hmp.2)
      have hw9 : (words P).length = 9 := by simp [words, hP9]
      have HTH := Lib.hid (show nine0.size = (words P).toArray.size by simp [hw9]; rfl)
      have HRR := Lib.hid hrr
      have HIN := Lib.hid (show (Tryz.prog.info? 64).map (·.size) = some (words P).length by rw [info_painting, hw9])
      have HIN2 := Lib.hid (show (Tryz.prog.info? 64).map (·.size) = some (words P).toArray.size by rw [info_painting]; simp [hw9])
      have HONE := Lib.hid (all_oneCell_toArray (words_one P))
      clear hmp hrr hwr hP
      go_wp2_with (first | (refine wpList_load_mid rfl 64 (.tmp 3) rfl (w.heap.size + 1) 0 rfl (words P) _ HRG.out Tryz.underlying64 rfl HIN.out ?_) | (refine wpList_store_rowTo rfl _ (.tmp 2) (.tmp 36) rfl rfl (w.heap.size) (words P).toArray rfl rfl 64 nine0 HRR.out HIN2.out HTH.out HONE.out ?_))
      exact bodyPost_ret (v := .agg (words P).toArray) (results_cell_row Tryz.results50 _ _ (w.heap.size) 64 (words P).toArray (0, 0) _ rfl hh5.out Tryz.underlying64 rfl HIN2.out) rfl ⟨by rw [HPP.out], hb5.out⟩
end Go.Proofs.YtcfibfbenccimaaGreatDoor

namespace Go.Proofs.YtcfibfbenccimaaGreatDoor
open Go.RowKit

def cAt (cs : List Int) (x : Int) : Int := cs.getD x.toNat 0
/-- No leap joins two cells of one colour. -/
def paIsB (W H : Int) (xs : List Int) (a b : Int) (cs : List Int) : Bool := (cellsL W H xs).all fun c => (leapsL W H xs a b c).all fun d => !(cAt cs c == cAt cs d)
theorem cells_rng64 {W H : Int} {xs : List Int} (hg : goodB W H xs = true) : ∀ x ∈ cellsL W H xs, 0 ≤ x ∧ x < 64 := fun x hx => by
  have h1 := (hasB_iff.1 (cellsL_mem.1 hx)).1
  obtain ⟨hW, hH, _, _⟩ := goodB_iff.1 hg
  have := cells_le hW hH
  omega
theorem cAt_of {cs : List Int} {x : Int} (h1 : x.toNat < cs.length) : cs[x.toNat]? = some (cAt cs x) := by
  rw [cAt, List.getD_eq_getElem?_getD, List.getElem?_eq_getElem h1]; rfl

set_option maxRecDepth 100000 in
set_option maxHeartbeats 4000000 in
theorem paIs_any (W H : Int) (A : Option Addr) (n c : Nat) (xs : List Int) (a b : Int) (A2 : Option Addr) (m c2 : Nat) (cs : List Int) (w : World) (ha : Rd w A n xs) (hc : Rd w A2 m cs) (hg : goodB W H xs = true) (hlen : (cs.length : Int) = W * H) :
    Calls Tryz.prog 30 #[brd W H A n c, lpr a b, .slice A2 m c2] w fun e w' => e = .returned (.bool (paIsB W H xs a b cs)) ∧ Below w.heap.size w w' := by
  have HG := Lib.hid hg
  have HN := Lib.hid (cells_le (goodB_iff.1 hg).1 (goodB_iff.1 hg).2.1)
  have HML := Lib.hid hc.1
  have m9 := hc.2.1
  have HLEN := Lib.hid hlen
  obtain ⟨W2, hW2⟩ : ∃ W2, W2 = (w.alloc (.cells #[.int .i64 W, .int .i64 H, .slice A n c] 30)).alloc (.cells #[.int .i64 a, .int .i64 b] 32) := ⟨_, rfl⟩
  have a0 : W2.cell? ⟨w.heap.size, 0, none⟩ = some (.int .i64 W) := by rw [hW2]; go_simp
  have a1 : W2.cell? ⟨w.heap.size, 1, none⟩ = some (.int .i64 H) := by rw [hW2]; go_simp
  have a2 : W2.cell? ⟨w.heap.size, 2, none⟩ = some (.slice A n c) := by rw [hW2]; go_simp
  have l0 : W2.cell? ⟨w.heap.size + 1, 0, none⟩ = some (.int .i64 a) := by rw [hW2]; go_simp
  have l1 : W2.cell? ⟨w.heap.size + 1, 1, none⟩ = some (.int .i64 b) := by rw [hW2]; go_simp
  have hsz : w.heap.size + 2 ≤ W2.heap.size := by rw [hW2]; simp
  have B := Lib.hid (show Below w.heap.size w W2 by rw [hW2]; exact below_new (below_new (Below.refl _ _) _) _)
  have R := Lib.hid (ha.keep B.out); have RC := Lib.hid hc
  have ga : w.heap.size < W2.heap.size := by omega
  have gl : w.heap.size + 1 < W2.heap.size := by omega
  clear hg ha hc hlen
  go_enter Tryz.func30, Tryz.ntmps30
  go_wp2_with fail
  rw [← hW2]
  clear hW2
  refine (boCells_any W H A n c xs _ R.out HN.out).mono ?_
  rintro e ws ⟨A1, n1, c1, rfl, hst, hb⟩
  replace a0 := cell_keep a0 ga hb; replace a1 := cell_keep a1 ga hb; replace a2 := cell_keep a2 ga hb; replace l0 := cell_keep l0 gl hb; replace l1 := cell_keep l1 gl hb; replace ga := lt_keep ga hb; replace gl := lt_keep gl hb; replace R := Lib.hid (R.out.keep hb)
  replace B := Lib.hid (below_next B.out hb)
  have ST := Lib.hid hst.rd
  have SL := Lib.hid hst.len
  have n8 : n1 ≤ 64 := by have := cellsL_len64 (xs := xs) HN.out; have := hst.len; omega
  clear hst hb hsz
  go_wp2
  go_loopw [14] (fun i wr => ∃ k : Nat, k ≤ n1 ∧ i = .int .i64 k ∧ ((cellsL W H xs).take k).all (fun c => (leapsL W H xs a b c).all fun d => !(cAt cs c == cAt cs d)) = true ∧ Below ws.heap.size ws wr) (fun i _ => n1 - (intOf i).toNat)
  case atStart => exact ⟨0, Nat.zero_le _, rfl, by simp, Below.refl _ _⟩
  case round =>
    obtain ⟨k, hk, rfl, hall, hbw⟩ := hrel
    have HALL := Lib.hid hall
    have HB := Lib.hid hbw
    clear hall
    by_cases hlt : k < n1
    · obtain ⟨bb, oo, x, rfl, hg1, hx, x0⟩ := ST.out.at_ hlt
      have HX := Lib.hid hx
      have hxm := List.mem_of_getElem? hx
      obtain ⟨hx0, hx1⟩ := cells_rng64 HG.out x hxm
      have hxN : x.toNat < m := by have := (hasB_iff.1 (cellsL_mem.1 hxm)).1; have := HLEN.out; have := HML.out; omega
      obtain ⟨p, rfl⟩ : ∃ p : Nat, x = (p : Int) := ⟨x.toNat, by omega⟩
      rw [Int.toNat_natCast] at hxN
      have HXM := Lib.hid hxm
      replace x0 := cell_keep x0 hg1 hbw
      have b0 := cell_keep a0 ga hbw; have b1 := cell_keep a1 ga hbw; have b2 := cell_keep a2 ga hbw; have m0 := cell_keep l0 gl hbw; have m1 := cell_keep l1 gl hbw
      have gb := lt_keep ga hbw; have gm := lt_keep gl hbw
      have hL := boLeaps_any W H A n c xs a b (p : Int) wr (R.out.keep hbw) HG.out ⟨hx0, by omega⟩
      clear hx hbw hxm hg1
      go_wp2_with fail
      refine hL.mono ?_
      rintro e wv ⟨A3, n3, c3, rfl, hown, hb⟩
      replace b0 := cell_keep b0 gb hb; replace b1 := cell_keep b1 gb hb; replace b2 := cell_keep b2 gb hb; replace m0 := cell_keep m0 gm hb; replace m1 := cell_keep m1 gm hb
      have LT := Lib.hid hown.rd
      have LL := Lib.hid hown.len
      have n9 : n3 ≤ 64 := by have := leapsL_len64 (a := a) (b := b) (q := (p : Int)) (xs := xs) HN.out; have := hown.len; omega
      have HV := Lib.hid (HB.out.trans (hb.mono HB.out.size))
      clear hb hown hL x0
      go_wp2
      go_loopw [23] (fun i wr => ∃ j : Nat, j ≤ n3 ∧ i = .int .i64 j ∧ ((leapsL W H xs a b p).take j).all (fun d => !(cAt cs p == cAt cs d)) = true ∧ Below wv.heap.size wv wr) (fun i _ => n3 - (intOf i).toNat)
      case atStart => exact ⟨0, Nat.zero_le _, rfl, by simp, Below.refl _ _⟩
      case round =>
        obtain ⟨j, hj, rfl, hallj, hbj⟩ := hrel
        rename_i wz
        have HALJ := Lib.hid hallj
        have HBJ := Lib.hid hbj
        have HW0 := Lib.hid (B.out.trans ((HV.out.trans (hbj.mono HV.out.size)).mono B.out.size))
        clear hallj
        by_cases hltj : j < n3
        · obtain ⟨b3, o3, y, rfl, hg3, hy, y0⟩ := LT.out.at_ hltj
          have HY := Lib.hid hy
          have hym := (List.mem_filter.1 (List.mem_of_getElem? hy)).1
          obtain ⟨hy0, hy1⟩ := cells_rng64 HG.out y hym
          have hyN : y.toNat < m := by have := (hasB_iff.1 (cellsL_mem.1 hym)).1; have := HLEN.out; have := HML.out; omega
          obtain ⟨q, rfl⟩ : ∃ q : Nat, y = (q : Int) := ⟨y.toNat, by omega⟩
          rw [Int.toNat_natCast] at hyN
          replace y0 := cell_keep y0 hg3 hbj
          obtain ⟨b4, o4, u, rfl, hg4, hu, u0⟩ := RC.out.at_ hxN
          obtain ⟨b5, o5, v, e5, hg5, hv, v0⟩ := RC.out.at_ hyN
          obtain ⟨rfl, rfl⟩ : b4 = b5 ∧ o4 = o5 := by simp at e5; exact e5
          replace u0 := cell_keep u0 hg4 HW0.out
          replace v0 := cell_keep v0 hg5 HW0.out
          have HU := Lib.hid (show cAt cs (p : Int) = u by have := cAt_of (x := (p : Int)) (cs := cs) (by have := HML.out; omega); rw [Int.toNat_natCast, hu] at this; injection this with this; exact this.symm)
          have HV2 := Lib.hid (show cAt cs (q : Int) = v by have := cAt_of (x := (q : Int)) (cs := cs) (by have := HML.out; omega); rw [Int.toNat_natCast, hv] at this; injection this with this; exact this.symm)
          clear hy hym hu hv hbj e5 hg3 hg4 hg5
          cases huv : (u == v) with
          | true =>
            have HUV := Lib.hid huv
            go_wp2
            go_quiet (fail)
            go_wp2
            go_ret
            exact ⟨ret_bool (by
              symm; rw [paIsB, Bool.eq_false_iff]; intro h
              have h1 := List.all_eq_true.1 (List.all_eq_true.1 h (p : Int) HXM.out) (q : Int) (List.mem_of_getElem? HY.out)
              rw [HU.out, HV2.out, HUV.out] at h1; cases h1), below_drewN HW0.out _⟩
          | false =>
            have HUV := Lib.hid huv
            go_wp2
            go_quiet (fail)
            go_wp2
            go_roundw
            case rel => exact ⟨j + 1, by omega, by go_num, by rw [List.take_add_one, HY.out, List.all_append, HALJ.out]; simp [HU.out, HV2.out, HUV.out], below_drewN HBJ.out _⟩
            case measure => simp [intOf]; omega
        · have hjn : j = n3 := by omega
          subst hjn
          have HE := Lib.hid (show (leapsL W H xs a b p).all (fun d => !(cAt cs p == cAt cs d)) = true by have h := HALJ.out; rw [List.take_of_length_le (by have := LL.out; omega)] at h; exact h)
          clear hbj
          go_wp2
          go_roundw
          case rel => exact ⟨k + 1, by omega, by go_num, by rw [List.take_add_one, HX.out, List.all_append, HALL.out]; simpa using HE.out, HV.out.trans (HBJ.out.mono HV.out.size)⟩
          case measure => simp [intOf]; omega
    · have hkn : k = n1 := by omega
      subst hkn
      clear hbw
      go_wp2
      go_ret
      exact ⟨ret_bool (by have h := HALL.out; rw [List.take_of_length_le (by have := SL.out; omega)] at h; rw [paIsB, h]), B.out.trans (HB.out.mono B.out.size)⟩
end Go.Proofs.YtcfibfbenccimaaGreatDoor

namespace Go.Proofs.YtcfibfbenccimaaGreatDoor
open Go.RowKit

end Go.Proofs.YtcfibfbenccimaaGreatDoor

namespace Go.Proofs.YtcfibfbenccimaaGreatDoor
open Go.RowKit

def shrT (a b : Int) : Int := if a % 2 = 0 ∧ b % 2 = 0 then (if a % 4 = 0 ∧ b % 4 = 0 then 4 else 2) else 1
def kapT (a b X Y : Int) : Int := if (a / shrT a b + b / shrT a b) % 2 = 1 then (X / shrT a b + Y / shrT a b) % 2 else X / shrT a b % 2
theorem abs_or (x a : Int) (h : absV x = a) : x = a ∨ x = -a := by unfold absV at h; split at h <;> omega
theorem kap_flip {a b : Int} (h : leaperB a b = true) : ∀ X Y X' Y' : Int, stepB a b (X - X') (Y - Y') = true → (kapT a b X Y + kapT a b X' Y') % 2 = 1 :=
  leaper_cases (P := fun a b => ∀ X Y X' Y' : Int, stepB a b (X - X') (Y - Y') = true → (kapT a b X Y + kapT a b X' Y') % 2 = 1) h (by
    intro a ha b hb hab X Y X' Y' hs
    rw [stepB_iff] at hs
    have hs2 : ((X - X' = a ∨ X - X' = -a) ∧ (Y - Y' = b ∨ Y - Y' = -b)) ∨ ((X - X' = b ∨ X - X' = -b) ∧ (Y - Y' = a ∨ Y - Y' = -a)) := by
      rcases hs with ⟨h1, h2⟩ | ⟨h1, h2⟩
      · exact Or.inl ⟨abs_or _ _ h1, abs_or _ _ h2⟩
      · exact Or.inr ⟨abs_or _ _ h1, abs_or _ _ h2⟩
    clear hs
    simp only [List.mem_cons, List.not_mem_nil, or_false] at ha hb
    rcases ha with rfl | rfl | rfl | rfl | rfl | rfl <;> rcases hb with rfl | rfl | rfl | rfl | rfl <;> first
      | (exfalso; omega)
      | (simp only [kapT, shrT, Int.reduceMod, Int.reduceDiv, Int.reduceAdd, Int.reduceEq, and_self, and_true, and_false, if_true, if_false]; omega))
def kapC (W a b x : Int) : Int := kapT a b (x % W) (x / W)
theorem leap_flip {W H a b c d : Int} {xs : List Int} (hl : leaperB a b = true) (hd : d ∈ leapsL W H xs a b c) : (kapC W a b c + kapC W a b d) % 2 = 1 := by
  have h := (List.mem_filter.1 hd).2
  exact kap_flip hl _ _ _ _ h

/-! ### Distances and colours -/
def ParT (g : Int → Int) (z : Int) (far : List Int) : Prop := ∀ i : Nat, 0 ≤ far.getD i (-1) → (far.getD i (-1) + g (i : Int) + z) % 2 = 0
theorem visit_par {g : Int → Int} {z d : Int} : ∀ (l far q : List Int), (∀ x ∈ l, 0 ≤ x ∧ (d + 1 + g x + z) % 2 = 0) → ParT g z far → ParT g z (visit d l (far, q)).1
  | [], _, _, _, h => h
  | x :: t, far, q, hl, h => by
    have hx := hl x List.mem_cons_self
    rw [visit]
    split
    · refine visit_par t _ _ (fun y hy => hl y (List.mem_cons_of_mem _ hy)) (fun i hi => ?_)
      by_cases e : x.toNat = i
      · by_cases hlt : i < far.length
        · rw [List.getD_eq_getElem?_getD, List.getElem?_set, if_pos e, if_pos (by omega)]
          have : (i : Int) = x := by omega
          rw [this]; exact hx.2
        · rw [List.set_eq_of_length_le (by omega)] at hi ⊢; exact h i hi
      · rw [List.getD_eq_getElem?_getD, List.getElem?_set_ne e, ← List.getD_eq_getElem?_getD] at hi ⊢
        exact h i hi
    · exact visit_par t _ _ (fun y hy => hl y (List.mem_cons_of_mem _ hy)) h
theorem bfs_par {adj : Int → List Int} {N : Nat} {start : Int} {g : Int → Int} (hs : 0 ≤ start ∧ start < N) (ha : ∀ c : Int, 0 ≤ c ∧ c < N → ∀ x ∈ adj c, 0 ≤ x ∧ x < N) (hg : ∀ c, ∀ x ∈ adj c, (g c + g x) % 2 = 1) : ∀ k : Nat, ParT g (g start) (bfsTo adj N start k).1
  | 0 => fun i hi => by
    simp only [bfsTo] at hi ⊢
    by_cases e : start.toNat = i
    · rw [List.getD_eq_getElem?_getD, List.getElem?_set, if_pos e, if_pos (by simp; omega)]
      have : (i : Int) = start := by omega
      rw [this, Option.getD_some]; omega
    · rw [List.getD_eq_getElem?_getD, List.getElem?_set_ne e, List.getElem?_replicate] at hi
      split at hi <;> simp at hi
  | k + 1 => by
    have ih := bfs_par hs ha hg k
    cases hc : (bfsTo adj N start k).2[k]? with
    | none => rw [bfsTo, bfsStep, hc]; exact ih
    | some c =>
      rw [bfs_next hc]
      have hok := bfs_ok hs ha k
      have hcr := hok.range c (List.mem_of_getElem? hc)
      have hc0 := hok.seen c (List.mem_of_getElem? hc)
      have e0 := getD_lt (L := (bfsTo adj N start k).1) (i := c.toNat) (by rw [hok.len]; omega) (-1) 0
      have hcp := ih c.toNat (by rw [e0]; exact hc0)
      rw [e0, show ((c.toNat : Nat) : Int) = c by omega] at hcp
      exact visit_par (adj c) _ _ (fun x hx => ⟨(ha c hcr x hx).1, by have := hg c x hx; omega⟩) ih
theorem dist_par {W H a b p : Int} {xs : List Int} {N : Nat} (h : OnFacts W H xs a b N) (hp : hasB W H xs p = true) {i : Nat} (hd : 0 ≤ (distL W H xs a b p).getD i (-1)) : ((distL W H xs a b p).getD i (-1) + kapC W a b (i : Int) + kapC W a b p) % 2 = 0 := by
  have hN : (W * H).toNat = N := by have := h.wh; omega
  have hr := (hasB_iff.1 hp).1
  rw [h.wh] at hr
  have had : ∀ c : Int, 0 ≤ c ∧ c < (N : Int) → ∀ x ∈ leapsL W H xs a b c, 0 ≤ x ∧ x < (N : Int) := fun c _ x hx => leaps_in h.wh hx
  have e : distL W H xs a b p = (bfsTo (leapsL W H xs a b) N p N).1 := by rw [distL, hN]; rfl
  rw [e] at hd ⊢
  exact bfs_par hr had (fun c x hx => leap_flip h.l hx) N i hd
theorem in_parts {W H a b c : Int} {xs : List Int} {N : Nat} (h : OnFacts W H xs a b N) (hc : hasB W H xs c = true) : ∃ p ∈ partsL W H xs a b, c ∈ p := by
  have K := two_ok h (cellsL W H xs).length
  have e2 : partsTo W H xs a b (cellsL W H xs).length = partsL W H xs a b := by rw [partsTo, List.take_length]; rfl
  obtain ⟨j, hj, hjx⟩ := List.getElem_of_mem (cellsL_mem.2 hc)
  have hin := K.all j c hj (by rw [List.getElem?_eq_getElem hj, hjx])
  rw [e2, inParts, List.any_eq_true] at hin
  obtain ⟨p, hp, hx⟩ := hin
  exact ⟨p, hp, List.contains_iff_mem.1 hx⟩
theorem two_paints {W H a b : Int} {xs : List Int} {N : Nat} (h : OnFacts W H xs a b N) : paIsB W H xs a b (twoL W H xs a b) = true := by
  rw [paIsB, List.all_eq_true]
  intro c hc
  rw [List.all_eq_true]
  intro d hd
  have hcB := cellsL_mem.1 hc
  obtain ⟨p, hp, hcp⟩ := in_parts h hcB
  obtain ⟨hlen, hall⟩ := two_parts h
  obtain ⟨s, hs, rfl, -, hcol⟩ := hall p hp
  have hN : (W * H).toNat = N := by have := h.wh; omega
  have hsr := (hasB_iff.1 hs).1
  rw [h.wh] at hsr
  have had : ∀ c : Int, 0 ≤ c ∧ c < (N : Int) → ∀ x ∈ leapsL W H xs a b c, 0 ≤ x ∧ x < (N : Int) := fun c _ x hx => leaps_in h.wh hx
  obtain ⟨⟨c1, c2⟩, -, c3, c4⟩ := hcol c hcp
  have hdr := leaps_in h.wh hd
  have hd3 : 0 ≤ (distL W H xs a b s).getD d.toNat (-1) := by
    have e : distL W H xs a b s = farL (leapsL W H xs a b) N s := by rw [distL, hN]
    rw [e] at c3 ⊢
    exact far_step hsr had c1 c3 hd
  have hdp : d ∈ partL W H xs a b s := by
    have h7 := sel_contains (f := nearB (distL W H xs a b s) 64) (N := (W * H).toNat) (i := d.toNat) (by omega)
    rw [show ((d.toNat : Nat) : Int) = d by omega, partL_near h hs (by omega), decide_eq_true hd3] at h7
    exact List.contains_iff_mem.1 h7
  obtain ⟨-, -, d3, d4⟩ := hcol d hdp
  have p1 := dist_par h hs c3
  have p2 := dist_par h hs d3
  rw [show ((c.toNat : Nat) : Int) = c by omega] at p1
  rw [show ((d.toNat : Nat) : Int) = d by omega] at p2
  have pf := leap_flip h.l hd
  have k1 : cAt (twoL W H xs a b) c = (twoL W H xs a b).getD c.toNat (-1) := getD_lt (by omega) _ _
  have k2 : cAt (twoL W H xs a b) d = (twoL W H xs a b).getD d.toNat (-1) := getD_lt (by omega) _ _
  rw [k1, k2, ← c4, ← d4]
  simp only [Bool.not_eq_true', beq_eq_false_iff_ne, ne_eq]
  omega
end Go.Proofs.YtcfibfbenccimaaGreatDoor

namespace Go.Proofs.YtcfibfbenccimaaGreatDoor
open Go.RowKit

set_option maxRecDepth 100000 in
set_option maxHeartbeats 4000000 in
theorem paTwo_any (W H : Int) (A : Option Addr) (n c : Nat) (xs : List Int) (a b : Int) (N : Nat) (w : World) (ha : Rd w A n xs) (hF : OnFacts W H xs a b N) :
    Calls Tryz.prog 48 #[brd W H A n c, lpr a b] w fun e w' => ∃ g, e = .returned (.tuple #[.slice (some ⟨g, 0, none⟩) N N, .bool (paIsB W H xs a b (twoL W H xs a b))]) ∧ OwnI 3 w' w.heap.size (some ⟨g, 0, none⟩) N N (twoL W H xs a b) ∧ Below w.heap.size w w' := by
  have hWH := hF.wh
  have HWH := Lib.hid hWH
  have hg := hF.g
  have HF := Lib.hid hF
  clear hF
  have hN64 : N ≤ 64 := by obtain ⟨h1, h2, _, _⟩ := goodB_iff.1 hg; have := cells_le h1 h2; omega
  have hN0 : (0 : Int) ≤ (N : Int) := by omega
  obtain ⟨hW, hH, _, _⟩ := goodB_iff.1 hg
  have HW := Lib.hid hW; have HN := Lib.hid (cells_le hW hH)
  have HG := Lib.hid hg
  obtain ⟨i0, hi, hz0, hz1, hz2⟩ := info_parts infoI
  have HI := Lib.hid hi; have HZ0 := Lib.hid hz0; have HZ1 := Lib.hid hz1; have HZ2 := Lib.hid hz2
  clear hW hH hg hi hz0 hz1 hz2
  obtain ⟨W2, hW2⟩ : ∃ W2, W2 = (w.alloc (.cells #[.int .i64 W, .int .i64 H, .slice A n c] 30)).alloc (.cells #[.int .i64 a, .int .i64 b] 32) := ⟨_, rfl⟩
  have a0 : W2.cell? ⟨w.heap.size, 0, none⟩ = some (.int .i64 W) := by rw [hW2]; go_simp
  have a1 : W2.cell? ⟨w.heap.size, 1, none⟩ = some (.int .i64 H) := by rw [hW2]; go_simp
  have a2 : W2.cell? ⟨w.heap.size, 2, none⟩ = some (.slice A n c) := by rw [hW2]; go_simp
  have l0 : W2.cell? ⟨w.heap.size + 1, 0, none⟩ = some (.int .i64 a) := by rw [hW2]; go_simp
  have l1 : W2.cell? ⟨w.heap.size + 1, 1, none⟩ = some (.int .i64 b) := by rw [hW2]; go_simp
  have hsz : w.heap.size + 2 ≤ W2.heap.size := by rw [hW2]; simp
  have B := Lib.hid (show Below w.heap.size w W2 by rw [hW2]; exact below_new (below_new (Below.refl _ _) _) _)
  have R := Lib.hid (ha.keep B.out)
  have ga : w.heap.size < W2.heap.size := by omega
  have gl : w.heap.size + 1 < W2.heap.size := by omega
  go_enter Tryz.func48, Tryz.ntmps48
  go_wp2_with (at_make; refine wpList_make_full _ rfl _ _ 22 rfl w.heap.size 3 i0 (.int .i64 0) 1 Tryz.underlying22 HI.out HZ0.out HZ1.out .i64 .i64 _ _ N rfl rfl rfl rfl (by rw [HZ2.out]; omega) (by unfold maxLen; omega) (by simp; omega) ?_; intro w1 hown1 hg1)
  rw [← hW2] at hown1 hg1
  have hW2s : W2.heap.size = w.heap.size + 2 := by rw [hW2]; simp
  have hO1 : OwnI 3 w1 w.heap.size (some ⟨w.heap.size + 1 + 1, 0, none⟩) N N (List.replicate N 0) := by
    unfold OwnI
    rw [show N * 1 = N from by omega, hW2s] at hown1
    have e : (madeCells (Value.cells (.int .i64 0)) N).toList = List.replicate N (.int .i64 0) := toList_madeCells_one (.int .i64 0) N
    rw [e] at hown1
    simpa using hown1
  obtain ⟨fb, hfb⟩ : ∃ fb, fb = w.heap.size + 1 + 1 := ⟨_, rfl⟩
  rw [← hfb] at hO1 ⊢
  have hb1 : Below W2.heap.size W2 w1 := below_of_grown hg1 (Nat.le_refl _) (by simp)
  have hfb1 : W2.heap.size ≤ fb := by omega
  have hfb2 : fb < w1.heap.size := by rcases hO1.some_ (k := 0) (by omega) with ⟨g9, h9, _, h8⟩; injection h9 with h9; injection h9 with h9; omega
  have FAR := Lib.hid hO1; have B1 := Lib.hid hb1
  have hlow : w.heap.size + 2 ≤ W2.heap.size := by omega
  have hs1z := hb1.size
  clear hW2 hfb hown1 hg1 hO1 hb1 hsz hW2s hWH
  replace a0 := cell_keep a0 ga B1.out; replace a1 := cell_keep a1 ga B1.out; replace a2 := cell_keep a2 ga B1.out; replace l0 := cell_keep l0 gl B1.out; replace l1 := cell_keep l1 gl B1.out
  replace ga := lt_keep ga B1.out; replace gl := lt_keep gl B1.out
  go_loopw [20] (fun i wr => ∃ k : Nat, k ≤ N ∧ i = .int .i64 k ∧ OwnI 3 wr w.heap.size (some ⟨fb, 0, none⟩) N N (List.replicate k (-1) ++ List.replicate (N - k) 0) ∧ w1.grownBy wr (some fb)) (fun i _ => N - (intOf i).toNat)
  case atStart => exact ⟨0, by omega, rfl, by simpa using FAR.out, grown_refl _ _⟩
  case round =>
    obtain ⟨k, hk, rfl, hown, hgw⟩ := hrel
    by_cases hlt : k < N
    · have hx : (List.replicate k (-1 : Int) ++ List.replicate (N - k) 0)[k]? = some 0 := by
        rw [List.getElem?_append_right (by simp), List.length_replicate, Nat.sub_self, List.getElem?_replicate, if_pos (by omega)]
      have c0 := hown.cell hx
      have f0 := hown.frozen k
      have hi0 : (0 : Int) ≤ (k : Int) := by omega
      have hi1 : (k : Int) < (N : Int) := by omega
      obtain ⟨o1, g1⟩ := hown.stored k (-1)
      rw [minus_setN hlt] at o1
      have O1 := Lib.hid o1; have G1 := Lib.hid (grown_next hgw g1)
      clear o1 g1 hgw hown hx
      go_wp2
      go_roundw
      case rel => exact ⟨k + 1, by omega, by go_num, O1.out, G1.out⟩
      case measure => simp [intOf]; omega
    · obtain rfl : N = k := by omega
      have hown2 : OwnI 3 wr w.heap.size (some ⟨fb, 0, none⟩) N N (List.replicate N (-1)) := by simpa using hown
      have HBW := Lib.hid (B.out.trans ((B1.out.trans (below_of_grown hgw (by omega) (fun g h => by injection h with h; omega))).mono B.out.size))
      have hszw := hgw.size
      replace a0 := hgw.cell a0 (by simp; omega); replace a1 := hgw.cell a1 (by simp; omega); replace a2 := hgw.cell a2 (by simp; omega); replace l0 := hgw.cell l0 (by simp; omega); replace l1 := hgw.cell l1 (by simp; omega)
      have OW := Lib.hid hown2
      replace ga : w.heap.size < wr.heap.size := by omega
      replace gl : w.heap.size + 1 < wr.heap.size := by omega
      have hfbr : fb < wr.heap.size := by omega
      have hf2 : w.heap.size + 2 ≤ fb := by omega
      clear hgw hown hown2 FAR B1 B hk hlt hfb1 hfb2 hlow hs1z hszw R
      go_wp2_with fail
      refine (boCells_any W H A n c xs _ (ha.keep HBW.out) HN.out).mono ?_
      rintro e ws ⟨A1, n1, c1, rfl, hst, hb⟩
      replace a0 := cell_keep a0 ga hb; replace a1 := cell_keep a1 ga hb; replace a2 := cell_keep a2 ga hb; replace l0 := cell_keep l0 gl hb; replace l1 := cell_keep l1 gl hb; replace ga := lt_keep ga hb; replace gl := lt_keep gl hb
      replace OW := Lib.hid (OW.out.keep hb)
      have hfbs := lt_keep hfbr hb
      have hA1 : Hid (0 < n1 → ∃ g, A1 = some ⟨g, 0, none⟩ ∧ wr.heap.size ≤ g) := Lib.hid (fun h => by obtain ⟨g, h1, h2, _⟩ := hst.some_ h; exact ⟨g, h1, h2⟩)
      replace HBW := Lib.hid (below_next HBW.out hb)
      have hBs := HBW.out.size
      have ST := Lib.hid hst.rd
      have SL := Lib.hid hst.len
      have n8 : n1 ≤ 64 := by have := cellsL_len64 (xs := xs) HN.out; have := hst.len; omega
      clear hst hb
      go_wp2
      go_loopw [30] (fun i wq => ∃ k : Nat, k ≤ n1 ∧ i = .int .i64 k ∧ OwnI 3 wq w.heap.size (some ⟨fb, 0, none⟩) N N (twoTo W H xs a b k) ∧ ws.grownBy wq (some fb)) (fun i _ => n1 - (intOf i).toNat)
      case atStart => exact ⟨0, by omega, rfl, by rw [(two_ok HF.out 0).eq]; exact OW.out, grown_refl _ _⟩
      case round =>
        clear OW
        obtain ⟨k, hk, rfl, hown, hgw⟩ := hrel
        rename_i w0
        have hsq := hgw.size
        have hBQ : Below w.heap.size w wr := HBW.out.trans (below_of_grown hgw hBs (fun g h => by injection h with h; omega))
        have HBQ := Lib.hid hBQ
        by_cases hlt : k < n1
        · obtain ⟨g1, rfl, hg1l⟩ := hA1.out (by omega)
          obtain ⟨bb, oo, x, e1, hg1, hx, x0⟩ := ST.out.at_ hlt
          obtain ⟨rfl, rfl⟩ : bb = g1 ∧ oo = 0 := by simp at e1; exact ⟨e1.1.symm, e1.2.symm⟩
          rw [Nat.zero_add] at x0
          have hin := cellsL_mem.1 (List.mem_of_getElem? hx)
          have hxr := (hasB_iff.1 hin).1
          rw [HF.out.wh] at hxr
          obtain ⟨xn, rfl⟩ : ∃ xn : Nat, x = (xn : Int) := ⟨x.toNat, by omega⟩
          have hxn : xn < N := by omega
          have hx0 : (0 : Int) ≤ (xn : Int) := by omega
          have hx1 : (xn : Int) < (N : Int) := by omega
          have HX := Lib.hid hx; have HXI := Lib.hid hin
          replace x0 := hgw.cell x0 (by simp; omega)
          have b0 := hgw.cell a0 (by simp; omega); have b1 := hgw.cell a1 (by simp; omega); have b2 := hgw.cell a2 (by simp; omega); have m0 := hgw.cell l0 (by simp; omega); have m1 := hgw.cell l1 (by simp; omega)
          have hlen := (two_ok HF.out k).len
          obtain ⟨v, hv⟩ : ∃ v, (twoTo W H xs a b k)[xn]? = some v := ⟨_, List.getElem?_eq_getElem (by omega)⟩
          have v0 := hown.cell hv
          have hvd : (twoTo W H xs a b k).getD xn (-1) = v := by rw [List.getD_eq_getElem?_getD, hv]; rfl
          have HVD := Lib.hid hvd; have HOWN := Lib.hid hown; have HGW := Lib.hid hgw
          have HNEXT := Lib.hid (twoTo_next (a := a) (b := b) hx)
          clear hx hin hxr hgw hBQ hown hlen hv hvd e1
          by_cases hv0 : 0 ≤ v
          · have eN : Hid (twoTo W H xs a b (k + 1) = twoTo W H xs a b k) := Lib.hid (by rw [HNEXT.out, twoStep, Int.toNat_natCast, HVD.out, if_pos hv0])
            clear HNEXT
            go_wp2
            go_roundw
            case rel => exact ⟨k + 1, by omega, by go_num, by rw [eN.out]; exact HOWN.out, HGW.out⟩
            case measure => simp [intOf]; omega
          · have eN : Hid (twoTo W H xs a b (k + 1) = layK (distL W H xs a b (xn : Int)) (twoTo W H xs a b k) N) := Lib.hid (by rw [HNEXT.out, twoStep, Int.toNat_natCast, HVD.out, if_neg hv0, show (W * H).toNat = N by have := HF.out.wh; omega])
            clear HNEXT
            go_wp2_with fail
            refine (faFrom_any W H A n c xs a b xn N _ (ha.keep HBQ.out) HF.out.g HF.out.wh hxn).mono ?_
            rintro e wv ⟨g, rfl, own, hb⟩
            have eD : farL (leapsL W H xs a b) N (xn : Int) = distL W H xs a b (xn : Int) := by rw [distL, show (W * H).toNat = N by have := HF.out.wh; omega]
            rw [eD] at own
            have hbd := Lib.hid (dist_bd HF.out HXI.out)
            obtain ⟨D, hD⟩ : ∃ D, D = distL W H xs a b (xn : Int) := ⟨_, rfl⟩
            rw [← hD] at own hbd eN
            have DLEN := Lib.hid own.len
            have hgl : wr.heap.size ≤ g := by obtain ⟨g9, h1, h3, h2⟩ := own.some_ (k := 0) (by omega); injection h1 with h1; injection h1 with h1; omega
            have hgf : g ≠ fb := by omega
            have hgv : g < wv.heap.size := by obtain ⟨g9, h1, _, h2⟩ := own.some_ (k := 0) (by omega); injection h1 with h1; injection h1 with h1; omega
            have FAR := Lib.hid own
            have OW := Lib.hid (HOWN.out.keep hb)
            have HGV := Lib.hid (grown_next HGW.out (grown_of_below hb (some fb)))
            obtain ⟨out0, hout0⟩ : ∃ o, o = twoTo W H xs a b k := ⟨_, rfl⟩
            rw [← hout0] at OW eN
            have ho := Lib.hid OW.out.len
            clear hb own eD hD HGW HOWN HVD hout0 x0 v0
            go_wp2
            go_loopw [44] (fun i wx => ∃ j : Nat, j ≤ N ∧ i = .int .i64 j ∧ OwnI 3 wx w.heap.size (some ⟨fb, 0, none⟩) N N (layK D out0 j) ∧ wv.grownBy wx (some fb)) (fun i _ => N - (intOf i).toNat)
            case atStart => exact ⟨0, by omega, rfl, OW.out, grown_refl _ _⟩
            case round =>
              clear OW
              obtain ⟨j, hj, rfl, hown, hgx⟩ := hrel
              have hsx := hgx.size
              by_cases hjl : j < N
              · obtain ⟨y, hy⟩ : ∃ y, D[j]? = some y := ⟨_, List.getElem?_eq_getElem (show j < D.length by have := DLEN.out; omega)⟩
                have y0 := hgx.cell (FAR.out.cell hy) (by simp; omega)
                have hyb := hbd.out y (List.mem_of_getElem? hy)
                have hyd : D.getD j (-1) = y := by rw [List.getD_eq_getElem?_getD, hy]; rfl
                have hj0 : (0 : Int) ≤ (j : Int) := by omega
                have hj1 : (j : Int) < (N : Int) := by omega
                have HGX := Lib.hid hgx
                by_cases hy0 : 0 ≤ y
                · obtain ⟨r, hr⟩ : ∃ r, r = y % 2 := ⟨_, rfl⟩
                  have hrt : Int.tmod y 2 = r := by rw [hr, Int.tmod_eq_emod_of_nonneg hy0]
                  have hl := layK_yes (D := D) (out := out0) (k := j) (by rw [hyd]; exact hy0)
                  rw [hyd, ← hr] at hl
                  obtain ⟨z, hz⟩ : ∃ z, (layK D out0 j)[j]? = some z := ⟨_, List.getElem?_eq_getElem (by rw [layK_len]; have := ho.out; omega)⟩
                  have c0 := hown.cell hz
                  have f0 := hown.frozen j
                  obtain ⟨o1, g1⟩ := hown.stored j r
                  rw [← hl] at o1
                  have O1 := Lib.hid o1; have G1 := Lib.hid (grown_next hgx g1)
                  have hr0 : 0 ≤ r ∧ r ≤ 1 := by omega
                  have hy1 : y ≤ 64 := hyb.2
                  clear o1 g1 hgx hown hy hyb hyd hl hz hr
                  go_wp2
                  go_roundw
                  case rel => exact ⟨j + 1, by omega, by go_num, O1.out, G1.out⟩
                  case measure => simp [intOf]; omega
                · have hl := layK_no (D := D) (out := out0) (k := j) (by rw [hyd]; exact hy0)
                  have O1 := Lib.hid hown
                  have HL := Lib.hid hl
                  clear hgx hown hy hyb hyd hl
                  go_wp2
                  go_roundw
                  case rel => exact ⟨j + 1, by omega, by go_num, by rw [HL.out]; exact O1.out, HGX.out⟩
                  case measure => simp [intOf]; omega
              · obtain rfl : j = N := by omega
                rw [← eN.out] at hown
                have OW2 := Lib.hid hown
                have G2 := Lib.hid (grown_next HGV.out hgx)
                clear hown hgx
                go_wp2
                go_roundw
                case rel => exact ⟨k + 1, by omega, by go_num, OW2.out, G2.out⟩
                case measure => simp [intOf]; omega
        · obtain rfl : k = n1 := by omega
          have eT : Hid (twoTo W H xs a b k = twoL W H xs a b) := Lib.hid (by rw [twoTo, List.take_of_length_le (by have := SL.out; omega)]; rfl)
          have b0 := hgw.cell a0 (by simp; omega); have b1 := hgw.cell a1 (by simp; omega); have b2 := hgw.cell a2 (by simp; omega); have m0 := hgw.cell l0 (by simp; omega); have m1 := hgw.cell l1 (by simp; omega)
          rw [eT.out] at hown
          have OWN := Lib.hid hown
          have hTL : ((twoL W H xs a b).length : Int) = W * H := by have := (two_parts HF.out).1; have := HF.out.wh; omega
          clear hgw hBQ hown
          go_wp2_with fail
          refine (paIs_any W H A n c xs a b (some ⟨fb, 0, none⟩) N N (twoL W H xs a b) _ (ha.keep HBQ.out) OWN.out.rd HF.out.g hTL).mono ?_
          rintro e wz ⟨rfl, hb⟩
          have OWZ := Lib.hid (OWN.out.keep hb)
          have HBZ := Lib.hid (below_next HBQ.out hb)
          clear hb hTL
          go_wp2
          go_ret2
          exact ⟨fb, rfl, OWZ.out, HBZ.out⟩
end Go.Proofs.YtcfibfbenccimaaGreatDoor
