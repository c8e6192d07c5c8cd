/-
  Contracts: CrossedLeaps, in the model.
  Contracts: CrossedLeaps, in the program.
-/
import Derived.Test.YtjlcaggnfocabaaGreatBunHCrossedLeaps11
namespace Go.Proofs.YtjlcaggnfocabaaGreat
open Go.RowKit

def okCl (W H : Int) (xs : List Int) (a b f t : Int) : Bool := twoV W H xs a b && (lenB2 [f, t] && pathB W H xs a b [f, t])
def crossedP (W H : Int) (xs : List Int) (a b f t : Int) : List (Int × Int) := (pairsL W H xs a b).filter fun z => doB W z.1 z.2 f t
def crossedV (W H : Int) (xs : List Int) (a b f t : Int) : List (List Int) := if okCl W H xs a b f t then (crossedP W H xs a b f t).map pairL else []
theorem crossedV_small (W H : Int) (xs : List Int) (a b f t : Int) : (crossedV W H xs a b f t).length ≤ 5000 ∧ ∀ p ∈ crossedV W H xs a b f t, p.length ≤ 64 := by
  unfold crossedV
  split
  · rename_i h
    have hg : goodB W H xs = true := by simp only [okCl, Bool.and_eq_true] at h; exact two_gK h.1
    obtain ⟨hW, hH, _, _⟩ := goodB_iff.1 hg
    refine ⟨?_, fun p hp => ?_⟩
    · have h1 := pairsL_len (a := a) (b := b) (xs := xs) (cells_le hW hH)
      have h2 := List.length_filter_le (fun z : Int × Int => doB W z.1 z.2 f t) (pairsL W H xs a b)
      rw [List.length_map, crossedP]; omega
    · obtain ⟨q, _, rfl⟩ := List.mem_map.1 hp
      simp [pairL]
  · exact ⟨by simp, fun p hp => by simp at hp⟩
/-- Slices with their pairs: what a selection of them reads. -/
abbrev ZP := SlV × (Int × Int)
theorem infoIS : (Tryz.prog.info? 22).map (fun i => (i.zero, i.size, i.bytes)) = some (some (.slice none 0 0), 1, 24) := by kernel_rfl
theorem sel_parts {w : World} {lo lo2 top : Nat} {A : Option Addr} {n c : Nat} {zs : List ZP} {g : ZP → Bool} (hlo : lo ≤ lo2)
    (hK : OwnK encS 1 22 w lo2 A n c ((zs.filter g).map (·.1))) (hI : ∀ z ∈ zs, OwnI 3 w lo z.1.1 z.1.2.1 z.1.2.2 (pairL z.2))
    (hO : zs.Pairwise fun z u => ∀ x y, z.1.1 = some x → u.1.1 = some y → x.block < y.block) (hT : ∀ z ∈ zs, ∀ x, z.1.1 = some x → x.block < top) :
    PartsAt w lo top A n c (((zs.filter g).map (·.2)).map pairL) := by
  refine ⟨(zs.filter g).map (·.1), hK.lower hlo, by rw [List.length_map, List.length_map, ← hK.len, List.length_map], fun i v p hv hp => ?_, fun i j v u hij hv hu => ?_, fun i v hv => ?_⟩
  · rw [List.getElem?_map] at hv hp
    rw [List.getElem?_map] at hp
    cases hz : (zs.filter g)[i]? with
    | none => rw [hz] at hv; cases hv
    | some z =>
      rw [hz] at hv hp
      injection hv with hv; injection hp with hp
      subst hv hp
      exact hI z (List.mem_filter.1 (List.mem_of_getElem? hz)).1
  · rw [List.getElem?_map] at hv hu
    cases hz : (zs.filter g)[i]? with
    | none => rw [hz] at hv; cases hv
    | some z =>
      cases hy : (zs.filter g)[j]? with
      | none => rw [hy] at hu; cases hu
      | some y =>
        rw [hz] at hv; rw [hy] at hu
        injection hv with hv; injection hu with hu
        subst hv hu
        obtain ⟨b1, e1⟩ := List.getElem?_eq_some_iff.1 hz
        obtain ⟨b2, e2⟩ := List.getElem?_eq_some_iff.1 hy
        have := (List.pairwise_iff_getElem.1 (hO.filter g)) i j b1 b2 hij
        rw [e1, e2] at this
        exact this
  · rw [List.getElem?_map] at hv
    cases hz : (zs.filter g)[i]? with
    | none => rw [hz] at hv; cases hv
    | some z =>
      rw [hz] at hv
      injection hv with hv
      subst hv
      exact hT z (List.mem_filter.1 (List.mem_of_getElem? hz)).1
theorem zip_sel : ∀ (vs : List SlV) (ps : List (Int × Int)) (g : Int × Int → Bool), vs.length = ps.length → (((vs.zip ps).filter fun z => g z.2).map (·.2)) = ps.filter g
  | [], [], _, _ => rfl
  | v :: vs, p :: ps, g, h => by
    have h2 := zip_sel vs ps g (by simpa using h)
    rw [List.zip_cons_cons, List.filter_cons, List.filter_cons]
    split <;> rename_i h3
    · rw [List.map_cons, h2]
    · rw [h2]
  | [], p :: ps, _, h => by simp at h
  | v :: vs, [], _, h => by simp at h
theorem take_yes {α : Type} {zs : List α} {g : α → Bool} {k : Nat} {z : α} (h : zs[k]? = some z) (hg : g z = true) : (zs.take (k + 1)).filter g = (zs.take k).filter g ++ [z] := by
  rw [List.take_add_one, h, List.filter_append]; simp [hg]
theorem take_no {α : Type} {zs : List α} {g : α → Bool} {k : Nat} {z : α} (h : zs[k]? = some z) (hg : g z = false) : (zs.take (k + 1)).filter g = (zs.take k).filter g := by
  rw [List.take_add_one, h, List.filter_append]; simp [hg]

set_option maxRecDepth 100000 in
set_option maxHeartbeats 4000000 in
theorem spec_CrossedLeaps (W H : Int) (A : Option Addr) (n c : Nat) (xs : List Int) (a b f t : Int) (w : World) (ha : Rd w A n xs) :
    Calls Tryz.prog 6 #[brd W H A n c, lpr a b, .int .i64 f, .int .i64 t] w fun e w' => ∃ A' n' c', e = .returned (.tuple #[.slice A' n' c', .bool (okCl W H xs a b f t)]) ∧ OwnSS w' w.heap.size w'.heap.size A' n' c' (crossedV W H xs a b f t) ∧ Below w.heap.size w w' := by
  by_cases ht : twoV W H xs a b = true
  · by_cases hk : (lenB2 [f, t] && pathB W H xs a b [f, t]) = true
    · go_enter Tryz.func6, Tryz.ntmps6
      go_wp2_with fail
      refine (boTwoV_any _ _ _ _ _ _ _ _ _ ((ha.alloc _).alloc _)).mono ?_
      rw [ht]
      rintro e wv ⟨rfl, hb⟩
      have hbx0 := below_box hb
      have a0 : wv.cell? ⟨w.heap.size, 0, none⟩ = some (.int .i64 W) := by simpa using newbox hbx0 0
      have a1 : wv.cell? ⟨w.heap.size, 1, none⟩ = some (.int .i64 H) := by simpa using newbox hbx0 1
      have a2 : wv.cell? ⟨w.heap.size, 2, none⟩ = some (.slice A n c) := by simpa using newbox hbx0 2
      have al : w.heap.size < wv.heap.size := by simpa using newbox_lt hbx0
      have l0 : wv.cell? ⟨w.heap.size + 1, 0, none⟩ = some (.int .i64 a) := by simpa using newbox hb 0
      have l1 : wv.cell? ⟨w.heap.size + 1, 1, none⟩ = some (.int .i64 b) := by simpa using newbox hb 1
      have ll : w.heap.size + 1 < wv.heap.size := by simpa using newbox_lt hb
      have B := Lib.hid (below_box hbx0)
      clear hb hbx0
      go_wp2_with fail
      refine (crLeap_any W H A n c xs a b _ _ _ [f, t] _ ((ha.keep B.out).alloc _) (own_two wv f t wv.heap.size (Nat.le_refl _)).rd (two_gK ht)).mono ?_
      rw [hk]
      rintro e wv ⟨rfl, hb9⟩
      have hb := below_box hb9
      clear hb9
      replace a0 := cell_keep a0 al hb
      replace a1 := cell_keep a1 al hb
      replace a2 := cell_keep a2 al hb
      replace al := lt_keep al hb
      replace l0 := cell_keep l0 ll hb
      replace l1 := cell_keep l1 ll hb
      replace ll := lt_keep ll hb
      replace B := Lib.hid (below_next B.out hb)
      clear hb
      have HT := Lib.hid ht; have HK := Lib.hid hk
      have HOK := Lib.hid (show okCl W H xs a b f t = true by rw [okCl, ht, hk]; rfl)
      have hgd := two_gK ht
      obtain ⟨hW, hH, _, _⟩ := goodB_iff.1 hgd
      have HW := Lib.hid hW; have HN := Lib.hid (cells_le hW hH)
      have hp64 := path_64 hgd (show pathB W H xs a b [f, t] = true by simp only [Bool.and_eq_true] at hk; exact hk.2)
      have HF64 := Lib.hid (show 0 ≤ f ∧ f ≤ 64 by have := hp64 f (by simp); omega)
      have HT64 := Lib.hid (show 0 ≤ t ∧ t ≤ 64 by have := hp64 t (by simp); omega)
      have HGD := Lib.hid hgd
      clear hk hW hH hp64 hgd
      go_wp2_with fail
      refine (crLeaps_any W H A n c xs a b _ (ha.keep B.out) HGD.out (two_leaper HT.out)).mono ?_
      rintro e w3 ⟨A1, n1, c1, rfl, ⟨top, hpa, htop⟩, hb⟩
      have HSZ := Lib.hid B.out.size
      replace a0 := cell_keep a0 al hb; replace a1 := cell_keep a1 al hb; replace a2 := cell_keep a2 al hb; replace al := lt_keep al hb
      replace B := Lib.hid (below_next B.out hb)
      obtain ⟨vs, h1, h2, h3, h4, h5⟩ := hpa
      have hvl : vs.length = (pairsL W H xs a b).length := by have := h1.len; rw [List.length_map] at h2; omega
      obtain ⟨zs, hzs⟩ : ∃ zs : List ZP, zs = vs.zip (pairsL W H xs a b) := ⟨_, rfl⟩
      have hzl : zs.length = n1 := by rw [hzs, List.length_zip, hvl, Nat.min_self]; rw [List.length_map] at h2; exact h2
      have hz9 : ∀ (k : Nat) z, zs[k]? = some z → vs[k]? = some z.1 ∧ (pairsL W H xs a b)[k]? = some z.2 := fun k z hz => by
        rw [hzs, List.getElem?_zip_eq_some] at hz; exact hz
      have HZI := Lib.hid (show ∀ z ∈ zs, OwnI 3 w3 w.heap.size z.1.1 z.1.2.1 z.1.2.2 (pairL z.2) from fun z hz => by
        obtain ⟨k, hk⟩ := List.mem_iff_getElem?.1 hz
        obtain ⟨e1, e2⟩ := hz9 k z hk
        exact (h3 k z.1 (pairL z.2) e1 (by rw [List.getElem?_map, e2]; rfl)).lower (by have := HSZ.out; omega))
      have HZO := Lib.hid (show zs.Pairwise (fun z u => ∀ x y, z.1.1 = some x → u.1.1 = some y → x.block < y.block) from by
        rw [List.pairwise_iff_getElem]
        intro i j hi hj hij
        have e1 := hz9 i _ (List.getElem?_eq_getElem hi)
        have e2 := hz9 j _ (List.getElem?_eq_getElem hj)
        exact h4 i j _ _ hij e1.1 e2.1)
      have HZT := Lib.hid (show ∀ z ∈ zs, ∀ x, z.1.1 = some x → x.block < top from fun z hz => by
        obtain ⟨k, hk⟩ := List.mem_iff_getElem?.1 hz
        exact h5 k z.1 (hz9 k z hk).1)
      have HZV := Lib.hid (show ((zs.filter fun z => doB W z.2.1 z.2.2 f t).map (·.2)) = crossedP W H xs a b f t by rw [hzs, zip_sel vs _ (fun z => doB W z.1 z.2 f t) hvl]; rfl)
      have HZM := Lib.hid (show ∀ z ∈ zs, z.2 ∈ pairsL W H xs a b from fun z hz => by
        obtain ⟨k, hk⟩ := List.mem_iff_getElem?.1 hz
        exact List.mem_of_getElem? (hz9 k z hk).2)
      have HZ1 := Lib.hid (show ∀ (k : Nat) z, zs[k]? = some z → vs[k]? = some z.1 from fun k z hz => (hz9 k z hz).1)
      have HLV := Lib.hid h1
      have HZL := Lib.hid hzl
      have n1b : n1 ≤ 4096 := by rw [List.length_map] at h2; have := pairsL_len (a := a) (b := b) (xs := xs) HN.out; omega
      obtain ⟨i0, hi, hz0, hz1, hz2⟩ := info_parts infoIS
      have HI := Lib.hid hi; have HZ0 := Lib.hid hz0; have HZ2 := Lib.hid hz1; have HZ3 := Lib.hid hz2
      clear hb hzs hzl hz9 h1 h2 h3 h4 h5 hvl hi hz0 hz1 hz2 l0 l1 ll htop
      go_wp2
      go_loopw [10, 30] (fun v i wr => ∃ (k n' c' : Nat) (A' : Option Addr), k ≤ n1 ∧ i = .int .i64 k ∧ v = .slice A' n' c' ∧ n' ≤ k ∧ OwnK encS 1 22 wr w3.heap.size A' n' c' (((zs.take k).filter fun z => doB W z.2.1 z.2.2 f t).map (·.1)) ∧ Below w3.heap.size w3 wr) (fun _ i _ => n1 - (intOf i).toNat)
      case atStart => exact ⟨0, 0, 0, none, Nat.zero_le _, rfl, rfl, Nat.le_refl _, OwnK.none_ _ _ _ _ _, Below.refl _ _⟩
      case round =>
        obtain ⟨k, n', c', A', hk, rfl, rfl, hn', hown, hbw⟩ := hrel
        have HO := Lib.hid hown; have HB := Lib.hid hbw
        by_cases hlt : k < n1
        · obtain ⟨⟨⟨V, m, cc⟩, x, y⟩, hz⟩ : ∃ z, zs[k]? = some z := ⟨_, List.getElem?_eq_getElem (by rw [HZL.out]; exact hlt)⟩
          have HZ := Lib.hid hz
          have hmz := List.mem_of_getElem? hz
          have hio := HZI.out _ hmz
          have hpm := pairsL_mem HN.out (HZM.out _ hmz)
          simp only at hio hpm
          have hm2 : m = 2 := by have := hio.len; simpa [pairL] using this.symm
          subst hm2
          obtain ⟨gz, rfl, _, gzl⟩ := hio.some_ (k := 0) (by omega)
          have x0 := cell_keep (hio.cell (k := 0) (x := x) rfl) gzl hbw
          have y0 := cell_keep (hio.cell (k := 1) (x := y) rfl) gzl hbw
          have zl := lt_keep gzl hbw
          obtain ⟨g1, rfl, _, gl1⟩ := HLV.out.some_ hlt
          have v0 := HLV.out.cell (enc := encS) (k := 1) (j := 0) (fun _ => rfl) (HZ1.out k _ hz) (show (encS (some ⟨gz, 0, none⟩, 2, cc))[0]? = some (.slice (some ⟨gz, 0, none⟩) 2 cc) from rfl)
          rw [show k * 1 + 0 = k by omega] at v0
          replace v0 := cell_keep v0 gl1 hbw
          have HX64 := Lib.hid (show 0 ≤ x ∧ x ≤ 64 by have := HN.out; omega)
          have HY64 := Lib.hid (show 0 ≤ y ∧ y ≤ 64 by have := HN.out; omega)
          have b0 := cell_keep a0 al hbw; have b1 := cell_keep a1 al hbw; have b2 := cell_keep a2 al hbw; have bl := lt_keep al hbw
          have hsw := Lib.hid hbw.size
          have k0 : (0 : Int) ≤ (k : Int) := by omega
          have kn : (k : Int) < (n1 : Int) := by omega
          clear hz hmz hio hpm hown hbw gzl gl1
          cases hd : doB W x y f t with
          | true =>
            have HD := Lib.hid hd
            have HV := Lib.hid (show ((zs.take (k + 1)).filter fun z => doB W z.2.1 z.2.2 f t) = ((zs.take k).filter fun z => doB W z.2.1 z.2.2 f t) ++ [((some ⟨gz, 0, none⟩, 2, cc), x, y)] from take_yes HZ.out hd)
            clear hd
            go_wp2_with fail
            refine wp_region_held_drew (S := fun w' => w'.cell? ⟨w.heap.size, 0, none⟩ = some (.int .i64 W) ∧ w'.cell? ⟨w.heap.size, 1, none⟩ = some (.int .i64 H) ∧ w'.cell? ⟨w.heap.size, 2, none⟩ = some (.slice A n c) ∧ w'.cell? ⟨gz, 0, none⟩ = some (.int .i64 x) ∧ w'.cell? ⟨gz, 1, none⟩ = some (.int .i64 y)) (by kernel_rfl) ?_ (fun hHeld => ?_)
            · (try dsimp only)
              exact ⟨b0, b1, b2, x0, y0⟩
            refine wpAnyH_take (i := 0) (oi := ⟨_, _, _, _, _, _⟩) (v := ?_) rfl (by kernel_rfl) (by kernel_rfl) (by kernel_rfl) (fun _ _ _ h => h) (Or.inl ⟨by rfl, ?_⟩) (by assumption) ?_
            rotate_left
            · intro w hSw
              (try dsimp only at hSw)
              go_simp
              (try with_reducible rfl)
            (try simp only [Act.put, List.setIfInBounds_toArray, List.set_cons_zero, List.set_cons_succ])
            refine wpAnyH_take (i := 1) (oi := ⟨_, _, _, _, _, _⟩) (v := ?_) rfl (by kernel_rfl) (by kernel_rfl) (by kernel_rfl) (fun _ _ _ h => h) (Or.inl ⟨by rfl, ?_⟩) (by assumption) ?_
            rotate_left
            · intro w hSw
              (try dsimp only at hSw)
              go_simp
              (try with_reducible rfl)
            (try simp only [Act.put, List.setIfInBounds_toArray, List.set_cons_zero, List.set_cons_succ])
            refine wpAnyH_take (i := 2) (oi := ⟨_, _, _, _, _, _⟩) (v := ?_) rfl (by kernel_rfl) (by kernel_rfl) (by kernel_rfl) (fun _ _ _ h => h) (Or.inl ⟨by rfl, ?_⟩) (by assumption) ?_
            rotate_left
            · intro w hSw
              (try dsimp only at hSw)
              go_simp
              (try with_reducible rfl)
            (try simp only [Act.put, List.setIfInBounds_toArray, List.set_cons_zero, List.set_cons_succ])
            refine wpAnyH_take (i := 3) (oi := ⟨_, _, _, _, _, _⟩) (v := ?_) rfl (by kernel_rfl) (by kernel_rfl) (by kernel_rfl) (fun _ _ _ h => h) (Or.inl ⟨by rfl, ?_⟩) (by assumption) ?_
            rotate_left
            · intro w hSw
              (try dsimp only at hSw)
              go_simp
              (try with_reducible rfl)
            (try simp only [Act.put, List.setIfInBounds_toArray, List.set_cons_zero, List.set_cons_succ])
            refine wpAnyH_take (i := 4) (oi := ⟨_, _, _, _, _, _⟩) (v := ?_) rfl (by kernel_rfl) (by kernel_rfl) (by kernel_rfl) (fun _ _ _ h => h) (Or.inl ⟨by rfl, ?_⟩) (by assumption) ?_
            rotate_left
            · intro w hSw
              (try dsimp only at hSw)
              go_simp
              (try with_reducible rfl)
            (try simp only [Act.put, List.setIfInBounds_toArray, List.set_cons_zero, List.set_cons_succ])
            refine wpAnyH_take (i := 5) (oi := ⟨_, _, _, _, _, _⟩) (v := ?_) rfl (by kernel_rfl) (by kernel_rfl) (by kernel_rfl) (fun _ _ _ h => h) (Or.inl ⟨by rfl, ?_⟩) (by assumption) ?_
            rotate_left
            · intro w hSw
              (try dsimp only at hSw)
              go_simp
              (try with_reducible rfl)
            (try simp only [Act.put, List.setIfInBounds_toArray, List.set_cons_zero, List.set_cons_succ])
            refine wpAnyH_take (i := 6) (oi := ⟨_, _, _, _, _, _⟩) (v := ?_) rfl (by kernel_rfl) (by kernel_rfl) (by kernel_rfl) (fun _ _ _ h => h) (Or.inl ⟨by rfl, ?_⟩) (by assumption) ?_
            rotate_left
            · intro w hSw
              (try dsimp only at hSw)
              go_simp
              (try with_reducible rfl)
            (try simp only [Act.put, List.setIfInBounds_toArray, List.set_cons_zero, List.set_cons_succ])
            refine wpAnyH_take (i := 7) (oi := ⟨_, _, _, _, _, _⟩) (v := ?_) rfl (by kernel_rfl) (by kernel_rfl) (by kernel_rfl) (fun _ _ _ h => h) (Or.inl ⟨by rfl, ?_⟩) (by assumption) ?_
            rotate_left
            · intro w hSw
              (try dsimp only at hSw)
              go_simp
              (try with_reducible rfl)
            (try simp only [Act.put, List.setIfInBounds_toArray, List.set_cons_zero, List.set_cons_succ])
            refine wpAnyH_take (i := 8) (oi := ⟨_, _, _, _, _, _⟩) (v := ?_) rfl (by kernel_rfl) (by kernel_rfl) (by kernel_rfl) (fun _ _ _ h => h) (Or.inl ⟨by rfl, ?_⟩) (by assumption) ?_
            rotate_left
            · intro w hSw
              (try dsimp only at hSw)
              go_simp
              (try with_reducible rfl)
            (try simp only [Act.put, List.setIfInBounds_toArray, List.set_cons_zero, List.set_cons_succ])
            refine wpAnyH_ready (rs := [9]) (by kernel_rfl) (by simp) ?_
            refine AllReadyH.cons (o := ⟨_, _, _, _, _, _⟩) rfl (fun K hK => ?_) AllReadyH.nil
            go_simp
            (go_at_call 21; refine (crDo_any W H A n c x y f t _ HW.out HX64.out HY64.out HF64.out HT64.out).mono ?_; rw [HD.out]; rintro e wz ⟨rfl, hb⟩; (repeat (first | replace hb := below_undrew hb | replace hb := below_undrewN hb)); replace b0 := cell_keep b0 bl hb; replace b1 := cell_keep b1 bl hb; replace b2 := cell_keep b2 bl hb; replace bl := lt_keep bl hb; replace x0 := cell_keep x0 zl hb; replace y0 := cell_keep y0 zl hb; replace zl := lt_keep zl hb; replace HO := Lib.hid (HO.out.keep hb); replace HB := Lib.hid (below_next HB.out hb); replace hsw := Lib.hid (Nat.le_trans hsw.out hb.size); clear hb)
            (try go_wp2_with fail)
            refine hK.out _ _ ?_ (fun hHeld => ?_)
            · (try dsimp only)
              exact ⟨b0, b1, b2, x0, y0⟩
            clear hK K
            (try simp only [Act.put, List.setIfInBounds_toArray, List.set_cons_zero, List.set_cons_succ])
            refine wpAnyH_done (by kernel_rfl) ?_ _
            have HOA := Lib.hid (HO.out.keep (below_new (Below.refl _ _) (.cells #[.slice (some ⟨gz, 0, none⟩) 2 cc] 22)))
            obtain ⟨WQ, hWQ⟩ : ∃ WQ, WQ = wz := ⟨_, rfl⟩
            subst hWQ
            have HY9 : ∀ j u, ([((some ⟨gz, 0, none⟩, 2, cc) : SlV)].flatMap encS)[j]? = some u → (WQ.alloc (.cells #[.slice (some ⟨gz, 0, none⟩) 2 cc] 22)).cell? (Addr.add ⟨WQ.heap.size, 0, none⟩ j) = some u := fun j u hj => by
              rcases j with _ | j
              · injection hj with hj; subst hj; go_simp
              · simp [encS] at hj
            have hlo9 : w3.heap.size ≤ (WQ.alloc (.cells #[.slice (some ⟨gz, 0, none⟩) 2 cc] 22)).heap.size := by have := hsw.out; simp; omega
            have HB9 := Lib.hid (HB.out.trans (below_new2 (o := .cells #[.slice (some ⟨gz, 0, none⟩) 2 cc] 22) hsw.out))
            clear b0 b1 b2 bl x0 y0 zl v0
            go_wp2_with (at_builtin; refine wpList_appK (enc := encS) (k := 1) (E := 22) rfl (.tmp 44) (.tmp 46) 28 rfl i0 (.slice none 0 0) 24 Tryz.underlying28 HI.out HZ0.out HZ2.out HZ3.out rfl (by decide) (by decide) (fun _ => rfl) (fun v u hu => by simp [encS] at hu; subst hu; rfl) [((some ⟨gz, 0, none⟩, 2, cc) : SlV)] ⟨WQ.heap.size, 0, none⟩ 1 1 (by rfl) HOA.out (by rfl) rfl HY9 (by omega) hlo9 ?_; intro A5 c5 w5 hown5 hg5 hb5)
            have O5 := Lib.hid hown5
            have B5 := Lib.hid (HB9.out.trans hb5)
            clear hown5 hg5 hb5
            go_wp2
            go_roundw
            case rel => exact ⟨k + 1, n' + 1, c5, A5, by omega, by go_num, rfl, by omega, (by rw [HV.out, List.map_append]; exact O5.out), B5.out⟩
            case measure => simp [intOf]; omega
          | false =>
            have HD := Lib.hid hd
            have HV := Lib.hid (show ((zs.take (k + 1)).filter fun z => doB W z.2.1 z.2.2 f t) = ((zs.take k).filter fun z => doB W z.2.1 z.2.2 f t) from take_no HZ.out hd)
            clear hd
            go_wp2_with fail
            refine wp_region_held_drew (S := fun w' => w'.cell? ⟨w.heap.size, 0, none⟩ = some (.int .i64 W) ∧ w'.cell? ⟨w.heap.size, 1, none⟩ = some (.int .i64 H) ∧ w'.cell? ⟨w.heap.size, 2, none⟩ = some (.slice A n c) ∧ w'.cell? ⟨gz, 0, none⟩ = some (.int .i64 x) ∧ w'.cell? ⟨gz, 1, none⟩ = some (.int .i64 y)) (by kernel_rfl) ?_ (fun hHeld => ?_)
            · (try dsimp only)
              exact ⟨b0, b1, b2, x0, y0⟩
            refine wpAnyH_take (i := 0) (oi := ⟨_, _, _, _, _, _⟩) (v := ?_) rfl (by kernel_rfl) (by kernel_rfl) (by kernel_rfl) (fun _ _ _ h => h) (Or.inl ⟨by rfl, ?_⟩) (by assumption) ?_
            rotate_left
            · intro w hSw
              (try dsimp only at hSw)
              go_simp
              (try with_reducible rfl)
            (try simp only [Act.put, List.setIfInBounds_toArray, List.set_cons_zero, List.set_cons_succ])
            refine wpAnyH_take (i := 1) (oi := ⟨_, _, _, _, _, _⟩) (v := ?_) rfl (by kernel_rfl) (by kernel_rfl) (by kernel_rfl) (fun _ _ _ h => h) (Or.inl ⟨by rfl, ?_⟩) (by assumption) ?_
            rotate_left
            · intro w hSw
              (try dsimp only at hSw)
              go_simp
              (try with_reducible rfl)
            (try simp only [Act.put, List.setIfInBounds_toArray, List.set_cons_zero, List.set_cons_succ])
            refine wpAnyH_take (i := 2) (oi := ⟨_, _, _, _, _, _⟩) (v := ?_) rfl (by kernel_rfl) (by kernel_rfl) (by kernel_rfl) (fun _ _ _ h => h) (Or.inl ⟨by rfl, ?_⟩) (by assumption) ?_
            rotate_left
            · intro w hSw
              (try dsimp only at hSw)
              go_simp
              (try with_reducible rfl)
            (try simp only [Act.put, List.setIfInBounds_toArray, List.set_cons_zero, List.set_cons_succ])
            refine wpAnyH_take (i := 3) (oi := ⟨_, _, _, _, _, _⟩) (v := ?_) rfl (by kernel_rfl) (by kernel_rfl) (by kernel_rfl) (fun _ _ _ h => h) (Or.inl ⟨by rfl, ?_⟩) (by assumption) ?_
            rotate_left
            · intro w hSw
              (try dsimp only at hSw)
              go_simp
              (try with_reducible rfl)
            (try simp only [Act.put, List.setIfInBounds_toArray, List.set_cons_zero, List.set_cons_succ])
            refine wpAnyH_take (i := 4) (oi := ⟨_, _, _, _, _, _⟩) (v := ?_) rfl (by kernel_rfl) (by kernel_rfl) (by kernel_rfl) (fun _ _ _ h => h) (Or.inl ⟨by rfl, ?_⟩) (by assumption) ?_
            rotate_left
            · intro w hSw
              (try dsimp only at hSw)
              go_simp
              (try with_reducible rfl)
            (try simp only [Act.put, List.setIfInBounds_toArray, List.set_cons_zero, List.set_cons_succ])
            refine wpAnyH_take (i := 5) (oi := ⟨_, _, _, _, _, _⟩) (v := ?_) rfl (by kernel_rfl) (by kernel_rfl) (by kernel_rfl) (fun _ _ _ h => h) (Or.inl ⟨by rfl, ?_⟩) (by assumption) ?_
            rotate_left
            · intro w hSw
              (try dsimp only at hSw)
              go_simp
              (try with_reducible rfl)
            (try simp only [Act.put, List.setIfInBounds_toArray, List.set_cons_zero, List.set_cons_succ])
            refine wpAnyH_take (i := 6) (oi := ⟨_, _, _, _, _, _⟩) (v := ?_) rfl (by kernel_rfl) (by kernel_rfl) (by kernel_rfl) (fun _ _ _ h => h) (Or.inl ⟨by rfl, ?_⟩) (by assumption) ?_
            rotate_left
            · intro w hSw
              (try dsimp only at hSw)
              go_simp
              (try with_reducible rfl)
            (try simp only [Act.put, List.setIfInBounds_toArray, List.set_cons_zero, List.set_cons_succ])
            refine wpAnyH_take (i := 7) (oi := ⟨_, _, _, _, _, _⟩) (v := ?_) rfl (by kernel_rfl) (by kernel_rfl) (by kernel_rfl) (fun _ _ _ h => h) (Or.inl ⟨by rfl, ?_⟩) (by assumption) ?_
            rotate_left
            · intro w hSw
              (try dsimp only at hSw)
              go_simp
              (try with_reducible rfl)
            (try simp only [Act.put, List.setIfInBounds_toArray, List.set_cons_zero, List.set_cons_succ])
            refine wpAnyH_take (i := 8) (oi := ⟨_, _, _, _, _, _⟩) (v := ?_) rfl (by kernel_rfl) (by kernel_rfl) (by kernel_rfl) (fun _ _ _ h => h) (Or.inl ⟨by rfl, ?_⟩) (by assumption) ?_
            rotate_left
            · intro w hSw
              (try dsimp only at hSw)
              go_simp
              (try with_reducible rfl)
            (try simp only [Act.put, List.setIfInBounds_toArray, List.set_cons_zero, List.set_cons_succ])
            refine wpAnyH_ready (rs := [9]) (by kernel_rfl) (by simp) ?_
            refine AllReadyH.cons (o := ⟨_, _, _, _, _, _⟩) rfl (fun K hK => ?_) AllReadyH.nil
            go_simp
            (go_at_call 21; refine (crDo_any W H A n c x y f t _ HW.out HX64.out HY64.out HF64.out HT64.out).mono ?_; rw [HD.out]; rintro e wz ⟨rfl, hb⟩; (repeat (first | replace hb := below_undrew hb | replace hb := below_undrewN hb)); replace b0 := cell_keep b0 bl hb; replace b1 := cell_keep b1 bl hb; replace b2 := cell_keep b2 bl hb; replace bl := lt_keep bl hb; replace x0 := cell_keep x0 zl hb; replace y0 := cell_keep y0 zl hb; replace zl := lt_keep zl hb; replace HO := Lib.hid (HO.out.keep hb); replace HB := Lib.hid (below_next HB.out hb); replace hsw := Lib.hid (Nat.le_trans hsw.out hb.size); clear hb)
            (try go_wp2_with fail)
            refine hK.out _ _ ?_ (fun hHeld => ?_)
            · (try dsimp only)
              exact ⟨b0, b1, b2, x0, y0⟩
            clear hK K
            (try simp only [Act.put, List.setIfInBounds_toArray, List.set_cons_zero, List.set_cons_succ])
            refine wpAnyH_done (by kernel_rfl) ?_ _
            clear b0 b1 b2 bl x0 y0 zl v0
            go_wp2
            go_roundw
            case rel => exact ⟨k + 1, n', c', A', by omega, by go_num, rfl, by omega, (by rw [HV.out]; exact HO.out), HB.out⟩
            case measure => simp [intOf]; omega
        · have HE := Lib.hid (show zs.take k = zs from List.take_of_length_le (by rw [HZL.out]; omega))
          have kn : ¬ (k : Int) < (n1 : Int) := by omega
          have HSL := Lib.hid B.out.size
          clear hown hbw
          go_wp2
          go_ret2
          refine ⟨_, _, _, by rw [HOK.out]; rfl, ?_, below_next B.out HB.out⟩
          rw [crossedV, if_pos HOK.out, ← HZV.out]
          refine OwnSS.of (top := top) (sel_parts HSL.out ?_ (fun z hz => (HZI.out z hz).keep HB.out) HZO.out HZT.out)
          have h := HO.out
          rw [HE.out] at h
          exact h
    · have hk' : (lenB2 [f, t] && pathB W H xs a b [f, t]) = false := by simpa using hk
      have hz9 : okCl W H xs a b f t = false := by rw [okCl, ht, hk']; rfl
      go_enter Tryz.func6, Tryz.ntmps6
      go_wp2_with fail
      refine (boTwoV_any _ _ _ _ _ _ _ _ _ ((ha.alloc _).alloc _)).mono ?_
      rw [ht]
      rintro e wv ⟨rfl, hb⟩
      have hbx0 := below_box hb
      have a0 : wv.cell? ⟨w.heap.size, 0, none⟩ = some (.int .i64 W) := by simpa using newbox hbx0 0
      have a1 : wv.cell? ⟨w.heap.size, 1, none⟩ = some (.int .i64 H) := by simpa using newbox hbx0 1
      have a2 : wv.cell? ⟨w.heap.size, 2, none⟩ = some (.slice A n c) := by simpa using newbox hbx0 2
      have al : w.heap.size < wv.heap.size := by simpa using newbox_lt hbx0
      have l0 : wv.cell? ⟨w.heap.size + 1, 0, none⟩ = some (.int .i64 a) := by simpa using newbox hb 0
      have l1 : wv.cell? ⟨w.heap.size + 1, 1, none⟩ = some (.int .i64 b) := by simpa using newbox hb 1
      have ll : w.heap.size + 1 < wv.heap.size := by simpa using newbox_lt hb
      have B := Lib.hid (below_box hbx0)
      clear hb hbx0
      go_wp2_with fail
      refine (crLeap_any W H A n c xs a b _ _ _ [f, t] _ ((ha.keep B.out).alloc _) (own_two wv f t wv.heap.size (Nat.le_refl _)).rd (two_gK ht)).mono ?_
      rw [hk']
      rintro e wv ⟨rfl, hb9⟩
      have hb := below_box hb9
      clear hb9
      replace a0 := cell_keep a0 al hb
      replace a1 := cell_keep a1 al hb
      replace a2 := cell_keep a2 al hb
      replace al := lt_keep al hb
      replace l0 := cell_keep l0 ll hb
      replace l1 := cell_keep l1 ll hb
      replace ll := lt_keep ll hb
      replace B := Lib.hid (below_next B.out hb)
      clear hb
      go_wp2
      go_ret2
      exact ⟨none, 0, 0, by rw [hz9]; rfl, by rw [crossedV, if_neg (by rw [hz9]; simp)]; exact OwnSS.of (PartsAt.none_ _ _ 0), B.out⟩
  · have ht' : twoV W H xs a b = false := by simpa using ht
    have hz9 : okCl W H xs a b f t = false := by rw [okCl, ht']; rfl
    go_enter Tryz.func6, Tryz.ntmps6
    go_wp2_with fail
    refine (boTwoV_any _ _ _ _ _ _ _ _ _ ((ha.alloc _).alloc _)).mono ?_
    rw [ht']
    rintro e wv ⟨rfl, hb⟩
    have hbx0 := below_box hb
    have a0 : wv.cell? ⟨w.heap.size, 0, none⟩ = some (.int .i64 W) := by simpa using newbox hbx0 0
    have a1 : wv.cell? ⟨w.heap.size, 1, none⟩ = some (.int .i64 H) := by simpa using newbox hbx0 1
    have a2 : wv.cell? ⟨w.heap.size, 2, none⟩ = some (.slice A n c) := by simpa using newbox hbx0 2
    have al : w.heap.size < wv.heap.size := by simpa using newbox_lt hbx0
    have l0 : wv.cell? ⟨w.heap.size + 1, 0, none⟩ = some (.int .i64 a) := by simpa using newbox hb 0
    have l1 : wv.cell? ⟨w.heap.size + 1, 1, none⟩ = some (.int .i64 b) := by simpa using newbox hb 1
    have ll : w.heap.size + 1 < wv.heap.size := by simpa using newbox_lt hb
    have B := Lib.hid (below_box hbx0)
    clear hb hbx0
    go_wp2
    go_ret2
    exact ⟨none, 0, 0, by rw [hz9]; rfl, by rw [crossedV, if_neg (by rw [hz9]; simp)]; exact OwnSS.of (PartsAt.none_ _ _ 0), B.out⟩

end Go.Proofs.YtjlcaggnfocabaaGreat

namespace Go.Proofs.YtjlcaggnfocabaaGreat
open Go.RowKit

def PartsV (w : World) (lo top : Nat) (A : Option Addr) (n c : Nat) (vs : List SlV) (ps : List (List Int)) : Prop :=
  OwnK encS 1 22 w lo A n c vs ∧ ps.length = n ∧ (∀ (i : Nat) (v : SlV) (p : List Int), vs[i]? = some v → ps[i]? = some p → OwnI 3 w lo v.1 v.2.1 v.2.2 p) ∧
    (∀ (i j : Nat) (v u : SlV), i < j → vs[i]? = some v → vs[j]? = some u → ∀ x y, v.1 = some x → u.1 = some y → x.block < y.block) ∧
    ∀ (i : Nat) (v : SlV), vs[i]? = some v → ∀ x, v.1 = some x → x.block < top
theorem PartsV.parts {w : World} {lo top : Nat} {A : Option Addr} {n c : Nat} {vs : List SlV} {ps : List (List Int)} (h : PartsV w lo top A n c vs ps) : PartsAt w lo top A n c ps := ⟨vs, h⟩
theorem PartsV.none_ (w : World) (lo top : Nat) : PartsV w lo top none 0 0 [] [] := ⟨OwnK.none_ _ _ _ _ _, rfl, fun i v p h => by simp at h, fun i j v u _ h => by simp at h, fun i v h => by simp at h⟩
theorem PartsV.keep {w w' : World} {lo top : Nat} {A : Option Addr} {n c : Nat} {vs : List SlV} {ps : List (List Int)} (h : PartsV w lo top A n c vs ps) (hb : Below w.heap.size w w') : PartsV w' lo top A n c vs ps :=
  ⟨h.1.keep hb, h.2.1, fun i v p hv hp => (h.2.2.1 i v p hv hp).keep hb, h.2.2.2⟩
theorem PartsV.snoc {w w' : World} {lo top top' : Nat} {A A' : Option Addr} {n c c' : Nat} {vs : List SlV} {ps : List (List Int)} {A3 : Option Addr} {n3 c3 : Nat} {p : List Int} (h : PartsV w lo top A n c vs ps)
    (hp : OwnI 3 w lo A3 n3 c3 p) (hpn : ∀ y, A3 = some y → top ≤ y.block ∧ y.block < top') (htt : top ≤ top') (hK : OwnK encS 1 22 w' lo A' (n + 1) c' (vs ++ [(A3, n3, c3)])) (hgw : w.grownBy w' (rowOf A)) :
    PartsV w' lo top' A' (n + 1) c' (vs ++ [(A3, n3, c3)]) (ps ++ [p]) := by
  obtain ⟨h1, h2, h3, h4, h5⟩ := h
  have keepN : ∀ (lo' : Nat) (v : Option Addr) (m k : Nat) (q : List Int), OwnI 3 w lo' v m k q → OwnI 3 w' lo' v m k q := fun lo' v m k q hq => by
    rcases v with _ | v
    · exact hq.other hgw (fun a ha => by cases ha)
    · exact hq.other hgw (fun a ha => by
        injection ha with ha
        subst ha
        rcases A with _ | b
        · simp [rowOf]
        · have := rows_apart (by decide : 3 ≠ 22) hq h1.2
          simpa [rowOf] using this)
  refine ⟨hK, by rw [List.length_append, h2]; rfl, fun i v q hv hq => ?_, fun i j v u hij hv hu y z hy hz => ?_, fun i v hv y hy => ?_⟩
  · have hvl : vs.length = n := h1.len
    by_cases e : i < n
    · rw [List.getElem?_append_left (by omega)] at hv
      rw [List.getElem?_append_left (by omega)] at hq
      exact keepN _ _ _ _ _ (h3 i v q hv hq)
    · rw [List.getElem?_append_right (by omega)] at hv
      rw [List.getElem?_append_right (by omega)] at hq
      have e0 : i - n = 0 := by
        rcases Nat.eq_zero_or_pos (i - n) with h | h
        · exact h
        · rw [hvl, List.getElem?_eq_none (by simp; omega)] at hv; cases hv
      rw [hvl, e0] at hv
      rw [h2, e0] at hq
      simp at hv hq
      subst hv; subst hq
      exact keepN _ _ _ _ _ hp
  · have hvl : vs.length = n := h1.len
    have hj : j < (vs ++ [(A3, n3, c3)]).length := (List.getElem?_eq_some_iff.1 hu).1
    rw [List.length_append, hvl] at hj
    simp only [List.length_cons, List.length_nil] at hj
    rw [List.getElem?_append_left (by omega)] at hv
    by_cases e : j < n
    · rw [List.getElem?_append_left (by omega)] at hu
      exact h4 i j v u hij hv hu y z hy hz
    · rw [List.getElem?_append_right (by omega), hvl, show j - n = 0 by omega] at hu
      simp at hu; subst hu
      have := h5 i v hv y hy
      have := (hpn z hz).1
      omega
  · have hvl : vs.length = n := h1.len
    by_cases e : i < n
    · rw [List.getElem?_append_left (by omega)] at hv
      have := h5 i v hv y hy
      omega
    · have hj : i < (vs ++ [(A3, n3, c3)]).length := (List.getElem?_eq_some_iff.1 hv).1
      rw [List.length_append, hvl] at hj
      simp only [List.length_cons, List.length_nil] at hj
      rw [List.getElem?_append_right (by omega), hvl, show i - n = 0 by omega] at hv
      simp at hv; subst hv
      exact (hpn y hy).2
theorem step_appKg {α : Type} {enc : α → List Value} {k : Nat} {P : Program} {w : World} {ops : Array Oper} {o : Oper} {a : Act} {K : Act → World → Prop} {Q : Exit → Act → World → Prop} {E0 : Prop} (hgd : o.guard = none) (s x : Operand) (T E : TypeId)
    (ho : o.op = .call { callee := .builtin .append, args := #[s, x], argTypes := #[T, T] }) (i0 : TypeInfo) (z : Value) (bytes : Nat)
    (hT : P.underlying T = some (.slice E)) (hi : P.info? E = some i0) (hz0 : i0.zero = some z) (hz1 : i0.size = k) (hz2 : i0.bytes = bytes) (hzs : z.cells.size = k) (hk0 : 0 < k) (hby : bytes ≤ 64)
    (hk : ∀ x, (enc x).length = k) (h1 : ∀ x, ∀ u ∈ enc x, u.oneCell' = true)
    (lo : Nat) (A : Option Addr) (n c : Nat) (xs : List α) (ad : Addr) (m cy : Nat) (ys : List α) (hs : a.eval s = .slice A n c) (hown : OwnK enc k E w lo A n c xs) (hx : a.eval x = .slice (some ad) m cy) (hm : ys.length = m)
    (hy : ∀ j u, (ys.flatMap enc)[j]? = some u → w.cell? (ad.add j) = some u) (hn : n + m ≤ 1000000) (hlo : lo ≤ w.heap.size)
    (h : ∀ A' c' w', OwnK enc k E w' lo A' (n + m) c' (xs ++ ys) → w.grownBy w' (rowOf A) → Below lo w w' → K (a.put o.dst (.slice A' (n + m) c')) w') :
    if Region.wanted o (yielded ops a.tmps) = true then Oper.wp P o a w K Q else E0 := by
  have hw : Region.wanted o (yielded ops a.tmps) = true := by simp [Region.wanted, hgd]
  rw [if_pos hw]
  refine wp_append_own w s x T ho lo E i0 z k bytes hT hi hz0 hz1 hz2 hzs hk0 (.slice A n c) n (xs.flatMap enc) hs hown.2 ad m cy (ys.flatMap enc) hx (by rw [flat_len hk, hm]) hy ?_ (by unfold maxLen; omega) ?_ hlo ?_
  · intro u hu
    obtain ⟨y, _, hu⟩ := List.mem_flatMap.1 hu
    exact h1 y u hu
  · have := Nat.mul_le_mul hn hby; omega
  · intro v' w' hown' hgrow _
    rw [← List.flatMap_append] at hown'
    obtain ⟨A', c', rfl, hO⟩ := OwnK.of_row (by rw [List.length_append, hown.1, hm]) hown'
    exact h A' c' w' hO (by rcases A with _ | b <;> exact hgrow) ((Below.refl _ _).grown hgrow hlo (fun k hk => (World.ownsRow.lt hown.2 k hk).1))
theorem okCl_impl (W H : Int) (xs : List Int) (a b f t : Int) : okCl W H xs a b f t = (lenB2 [f, t] && okPa W H xs a b [f, t]) := by
  rw [okCl, okPa]; cases twoV W H xs a b <;> simp
theorem lnL_lt {W x y : Int} (h : x < y) : lnL W x y = ((x % W, x / W), (y % W, y / W)) := by
  rw [lnL, Int.min_eq_left (by omega), Int.max_eq_right (by omega)]; rfl

/-- A block that holds a line. -/
def LineBox (w : World) (g : Nat) : Prop := ∃ cs fr, w.heap[g]? = some (.cells cs 52 fr)
theorem LineBox.new (w : World) (cs : Array Value) : LineBox (w.alloc (.cells cs 52)) w.heap.size := ⟨cs, (0, 0), heap_alloc_new w _⟩
theorem LineBox.keep {w w' : World} {g : Nat} (h : LineBox w g) (hb : Below w.heap.size w w') : LineBox w' g := by
  obtain ⟨cs, fr, h⟩ := h
  exact ⟨cs, fr, (hb.block g (Array.getElem?_eq_some_iff.1 h).1).trans h⟩
theorem LineBox.apart {w : World} {g lo k n c : Nat} {b : Addr} {xs : List Value} (h : LineBox w g) (ho : w.ownsRow lo 22 k (.slice (some b) n c) n xs) : b.block ≠ g := fun e => by
  obtain ⟨cs, fr, h⟩ := h
  obtain ⟨c1, h1⟩ := row_block ho
  rw [e, h] at h1
  injection h1 with h1
  injection h1 with h1 h2 h3
  exact absurd h2 (by decide)

set_option maxRecDepth 100000 in
set_option maxHeartbeats 8000000 in
theorem impl_CrossedLeaps (W H : Int) (A : Option Addr) (n c : Nat) (xs : List Int) (a b f t : Int) (w : World) (ha : Rd w A n xs) :
    Calls Tryz.prog 9 #[brd W H A n c, lpr a b, .int .i64 f, .int .i64 t] w fun e w' => ∃ A' n' c', e = .returned (.tuple #[.slice A' n' c', .bool (okCl W H xs a b f t)]) ∧ OwnSS w' w.heap.size w'.heap.size A' n' c' (crossedV W H xs a b f t) ∧ Below w.heap.size w w' := by
  obtain ⟨W2, hW2⟩ : ∃ W2, W2 = (w.alloc (.cells #[.int .i64 W, .int .i64 H, .slice A n c] 31)).alloc (.cells #[.int .i64 a, .int .i64 b] 33) := ⟨_, rfl⟩
  have a0 : W2.cell? ⟨w.heap.size, 0, none⟩ = some (.int .i64 W) := by rw [hW2]; go_simp
  have a1 : W2.cell? ⟨w.heap.size, 1, none⟩ = some (.int .i64 H) := by rw [hW2]; go_simp
  have a2 : W2.cell? ⟨w.heap.size, 2, none⟩ = some (.slice A n c) := by rw [hW2]; go_simp
  have l0 : W2.cell? ⟨w.heap.size + 1, 0, none⟩ = some (.int .i64 a) := by rw [hW2]; go_simp
  have l1 : W2.cell? ⟨w.heap.size + 1, 1, none⟩ = some (.int .i64 b) := by rw [hW2]; go_simp
  have al : w.heap.size < W2.heap.size := by rw [hW2]; simp; omega
  have ll : w.heap.size + 1 < W2.heap.size := by rw [hW2]; simp
  have B := Lib.hid (show Below w.heap.size w W2 by rw [hW2]; exact below_new (below_new (Below.refl _ _) _) _)
  have R := Lib.hid (ha.keep B.out)
  clear ha
  by_cases hk : (lenB2 [f, t] && okPa W H xs a b [f, t]) = true
  · have hpm9 : okPa W H xs a b [f, t] = true := by simp only [Bool.and_eq_true] at hk; exact hk.2
    have HT := Lib.hid (okPa_two hpm9)
    have HOK := Lib.hid (show okCl W H xs a b f t = true by rw [okCl_impl, hk])
    have hgd := two_gK HT.out
    obtain ⟨hW, hH, _, _⟩ := goodB_iff.1 hgd
    have HW := Lib.hid hW; have HN := Lib.hid (cells_le hW hH)
    have HF64 := Lib.hid (show 0 ≤ f ∧ f ≤ 64 by have := okPa_64 hpm9 f (by simp); omega)
    have HT64 := Lib.hid (show 0 ≤ t ∧ t ≤ 64 by have := okPa_64 hpm9 t (by simp); omega)
    have HNE := Lib.hid (show f ≠ t from okPa_ne hpm9 0 (by simp))
    have HGD := Lib.hid hgd
    have HK := Lib.hid hk
    clear hk hW hH hgd hpm9
    go_enter Tryz.func9, Tryz.ntmps9
    go_upto_region 1 with fail
    rw [← hW2]
    clear hW2
    go_wp2_with fail
    refine (isLeapOn_any W H A n c xs a b _ _ _ [f, t] _ (R.out.alloc _) (own_two W2 f t W2.heap.size (Nat.le_refl _)).rd).mono ?_
    rw [HK.out]
    rintro e w3 ⟨rfl, hb9⟩
    have hb := below_box hb9
    clear hb9
    replace a0 := cell_keep a0 al hb; replace a1 := cell_keep a1 al hb; replace a2 := cell_keep a2 al hb; replace al := lt_keep al hb; replace l0 := cell_keep l0 ll hb; replace l1 := cell_keep l1 ll hb; replace ll := lt_keep ll hb; replace R := Lib.hid (R.out.keep hb); replace B := Lib.hid (below_next B.out hb)
    clear hb
    go_wp2_with fail
    refine (lineOf_any W H A n c f t _ HW.out HF64.out HT64.out).mono ?_
    rintro e w4 ⟨rfl, hb⟩
    replace a0 := cell_keep a0 al hb; replace a1 := cell_keep a1 al hb; replace a2 := cell_keep a2 al hb; replace al := lt_keep al hb; replace l0 := cell_keep l0 ll hb; replace l1 := cell_keep l1 ll hb; replace ll := lt_keep ll hb; replace R := Lib.hid (R.out.keep hb); replace B := Lib.hid (below_next B.out hb)
    clear hb
    go_upto_region 4 with fail
    obtain ⟨WP, hWP⟩ : ∃ WP, WP = w4.alloc (.cells #[.int .i64 (lnL W f t).1.1, .int .i64 (lnL W f t).1.2, .int .i64 (lnL W f t).2.1, .int .i64 (lnL W f t).2.2] 52) := ⟨_, rfl⟩
    obtain ⟨gp, hgp⟩ : ∃ gp, gp = w4.heap.size := ⟨_, rfl⟩
    have p0 : WP.cell? ⟨gp, 0, none⟩ = some (.int .i64 (lnL W f t).1.1) := by rw [hWP, hgp]; go_simp
    have p1 : WP.cell? ⟨gp, 1, none⟩ = some (.int .i64 (lnL W f t).1.2) := by rw [hWP, hgp]; go_simp
    have p2 : WP.cell? ⟨gp, 2, none⟩ = some (.int .i64 (lnL W f t).2.1) := by rw [hWP, hgp]; go_simp
    have p3 : WP.cell? ⟨gp, 3, none⟩ = some (.int .i64 (lnL W f t).2.2) := by rw [hWP, hgp]; go_simp
    have pl : gp < WP.heap.size := by rw [hWP, hgp]; simp
    have hb : Below w4.heap.size w4 WP := by rw [hWP]; exact below_new (Below.refl _ _) _
    rw [← hWP, ← hgp]
    clear hWP hgp
    replace a0 := cell_keep a0 al hb; replace a1 := cell_keep a1 al hb; replace a2 := cell_keep a2 al hb; replace al := lt_keep al hb; replace l0 := cell_keep l0 ll hb; replace l1 := cell_keep l1 ll hb; replace ll := lt_keep ll hb; replace R := Lib.hid (R.out.keep hb); replace B := Lib.hid (below_next B.out hb)
    clear hb
    go_wp2_with fail
    refine (linesOn_any W H A n c xs a b _ R.out HGD.out (two_leaper HT.out)).mono ?_
    rintro e w5 ⟨A1, n1, c1, rfl, hln, hb⟩
    replace p0 := cell_keep p0 pl hb; replace p1 := cell_keep p1 pl hb; replace p2 := cell_keep p2 pl hb; replace p3 := cell_keep p3 pl hb; replace pl := lt_keep pl hb
    replace a0 := cell_keep a0 al hb; replace a1 := cell_keep a1 al hb; replace a2 := cell_keep a2 al hb; replace al := lt_keep al hb; replace l0 := cell_keep l0 ll hb; replace l1 := cell_keep l1 ll hb; replace ll := lt_keep ll hb; replace R := Lib.hid (R.out.keep hb); replace B := Lib.hid (below_next B.out hb)
    clear hb
    have HLN := Lib.hid hln
    have HLL := Lib.hid (show (pairsL W H xs a b).length = n1 by have := hln.len; rw [List.length_map] at this; exact this)
    have n1b : n1 ≤ 4096 := by have := HLL.out; have := pairsL_len (a := a) (b := b) (xs := xs) HN.out; omega
    obtain ⟨i0, hi, hz0, hz1, hz2⟩ := info_parts infoIS
    have HI := Lib.hid hi; have HZ0 := Lib.hid hz0; have HZ2 := Lib.hid hz1; have HZ3 := Lib.hid hz2
    have CF := Lib.hid (co_line HW.out HF64.out HT64.out)
    have AL := Lib.hid al
    clear hln hi hz0 hz1 hz2 l0 l1 ll R
    go_wp2
    go_loopw [11, 29] (fun v i wr => ∃ (k n' c' top : Nat) (A' : Option Addr) (vs : List SlV), k ≤ n1 ∧ i = .int .i64 k ∧ v = .slice A' n' c' ∧ n' ≤ k ∧ PartsV wr w5.heap.size top A' n' c' vs ((((pairsL W H xs a b).take k).filter fun z => doB W z.1 z.2 f t).map pairL) ∧ top ≤ wr.heap.size ∧ Below w5.heap.size w5 wr) (fun _ i _ => n1 - (intOf i).toNat)
    case atStart => exact ⟨0, 0, 0, 0, none, [], Nat.zero_le _, rfl, rfl, Nat.le_refl _, PartsV.none_ _ _ _, Nat.zero_le _, Below.refl _ _⟩
    case round =>
      obtain ⟨k, n', c', top, A', vs, hk, rfl, rfl, hn', hpv, htp, hbw⟩ := hrel
      have HP := Lib.hid hpv; have HB := Lib.hid hbw
      by_cases hlt : k < n1
      · obtain ⟨⟨x, y⟩, hz⟩ : ∃ z, (pairsL W H xs a b)[k]? = some z := ⟨_, List.getElem?_eq_getElem (by rw [HLL.out]; exact hlt)⟩
        have HZ := Lib.hid hz
        have hpm := pairsL_mem HN.out (List.mem_of_getElem? hz)
        simp only at hpm
        obtain ⟨g1, rfl, _, gl1⟩ := HLN.out.some_ hlt
        obtain ⟨x0, x1, x2, x3⟩ := line_at HLN.out (i := k) (l := lnL W x y) (by rw [List.getElem?_map, hz]; rfl)
        rw [lnL_lt hpm.1] at x0 x1 x2 x3
        simp only at x0 x1 x2 x3
        replace x0 := cell_keep x0 gl1 hbw; replace x1 := cell_keep x1 gl1 hbw; replace x2 := cell_keep x2 gl1 hbw; replace x3 := cell_keep x3 gl1 hbw
        have HX64 := Lib.hid (show 0 ≤ x ∧ x ≤ 64 by have := HN.out; omega)
        have HY64 := Lib.hid (show 0 ≤ y ∧ y ≤ 64 by have := HN.out; omega)
        have CX := Lib.hid (cell_bd HW.out HX64.out); have CY := Lib.hid (cell_bd HW.out HY64.out)
        have HXA := Lib.hid (show 0 ≤ x % W ∧ x % W ≤ 1000 by have := CX.out; omega)
        have HYA9 := Lib.hid (show 0 ≤ y % W ∧ y % W ≤ 1000 by have := CY.out; omega)
        have HXB := Lib.hid (show 0 ≤ x / W * W ∧ x / W * W ≤ 1000 by have h1 := num_of W x; have := CX.out; have := HX64.out; have := Int.mul_nonneg (show 0 ≤ x / W by omega) (show 0 ≤ W by have := HW.out; omega); omega)
        have HYB := Lib.hid (show 0 ≤ y / W * W ∧ y / W * W ≤ 1000 by have h1 := num_of W y; have := CY.out; have := HY64.out; have := Int.mul_nonneg (show 0 ≤ y / W by omega) (show 0 ≤ W by have := HW.out; omega); omega)
        have HCD := Lib.hid (show cr ((x % W, x / W), (y % W, y / W)) (((lnL W f t).1.1, (lnL W f t).1.2), ((lnL W f t).2.1, (lnL W f t).2.2)) = doB W x y f t by
          have h := cr_do (W := W) (show x ≠ y by omega) HNE.out
          rw [lnL_lt hpm.1] at h
          exact h)
        have b0 := cell_keep a0 al hbw; have bl := lt_keep al hbw
        have e0 := cell_keep p0 pl hbw; have e1 := cell_keep p1 pl hbw; have e2 := cell_keep p2 pl hbw; have e3 := cell_keep p3 pl hbw; have el := lt_keep pl hbw
        have hsw := Lib.hid hbw.size
        have htop := Lib.hid htp
        have k0 : (0 : Int) ≤ (k : Int) := by omega
        have kn : (k : Int) < (n1 : Int) := by omega
        clear hz hpm hpv hbw gl1 htp
        cases hd : doB W x y f t with
        | true =>
          have HD := Lib.hid (HCD.out.trans hd)
          have HV := Lib.hid (show (((pairsL W H xs a b).take (k + 1)).filter fun z => doB W z.1 z.2 f t) = (((pairsL W H xs a b).take k).filter fun z => doB W z.1 z.2 f t) ++ [(x, y)] from take_yes HZ.out hd)
          clear hd
          go_upto_region 8 with fail
          obtain ⟨w6, hw6⟩ : ∃ w6, w6 = wr.alloc (.cells #[.int .i64 (x % W), .int .i64 (x / W), .int .i64 (y % W), .int .i64 (y / W)] 52) := ⟨_, rfl⟩
          obtain ⟨gq, hgq⟩ : ∃ gq, gq = wr.heap.size := ⟨_, rfl⟩
          have q0 : w6.cell? ⟨gq, 0, none⟩ = some (.int .i64 (x % W)) := by rw [hw6, hgq]; go_simp
          have q1 : w6.cell? ⟨gq, 1, none⟩ = some (.int .i64 (x / W)) := by rw [hw6, hgq]; go_simp
          have q2 : w6.cell? ⟨gq, 2, none⟩ = some (.int .i64 (y % W)) := by rw [hw6, hgq]; go_simp
          have q3 : w6.cell? ⟨gq, 3, none⟩ = some (.int .i64 (y / W)) := by rw [hw6, hgq]; go_simp
          have ql : gq < w6.heap.size := by rw [hw6, hgq]; simp
          have hb : Below wr.heap.size wr w6 := by rw [hw6]; exact below_new (Below.refl _ _) _
          have LB := Lib.hid (show LineBox w6 gq from by rw [hw6, hgq]; exact LineBox.new _ _)
          rw [← hw6, ← hgq]
          replace b0 := cell_keep b0 bl hb; replace bl := lt_keep bl hb; replace e0 := cell_keep e0 el hb; replace e1 := cell_keep e1 el hb; replace e2 := cell_keep e2 el hb; replace e3 := cell_keep e3 el hb; replace el := lt_keep el hb
          replace HP := Lib.hid (HP.out.keep hb); replace HB := Lib.hid (below_next HB.out hb); replace htop := Lib.hid (Nat.le_trans htop.out hb.size); replace hsw := Lib.hid (Nat.le_trans hsw.out hb.size)
          clear hw6 hgq hb x0 x1 x2 x3
          go_wp2_with fail
          refine (crosses_any (x % W) (x / W) (y % W) (y / W) (lnL W f t).1.1 (lnL W f t).1.2 (lnL W f t).2.1 (lnL W f t).2.2 _ CX.out.1 CX.out.2 CY.out.1 CY.out.2 CF.out.1.1 CF.out.1.2 CF.out.2.1 CF.out.2.2).mono ?_
          rw [HD.out]
          rintro e w8 ⟨rfl, hb⟩
          replace b0 := cell_keep b0 bl hb; replace bl := lt_keep bl hb; replace q0 := cell_keep q0 ql hb; replace q1 := cell_keep q1 ql hb; replace q2 := cell_keep q2 ql hb; replace q3 := cell_keep q3 ql hb; replace ql := lt_keep ql hb; replace HP := Lib.hid (HP.out.keep hb); replace HB := Lib.hid (below_next HB.out hb); replace htop := Lib.hid (Nat.le_trans htop.out hb.size); replace hsw := Lib.hid (Nat.le_trans hsw.out hb.size); replace LB := Lib.hid (LB.out.keep hb)
          clear hb e0 e1 e2 e3 el
          go_wp2_with fail
          refine wp_region_held_drew (S := fun w' => w'.cell? ⟨w.heap.size, 0, none⟩ = some (.int .i64 W) ∧ w'.cell? ⟨gq, 0, none⟩ = some (.int .i64 (x % W)) ∧ w'.cell? ⟨gq, 1, none⟩ = some (.int .i64 (x / W)) ∧ w'.cell? ⟨gq, 2, none⟩ = some (.int .i64 (y % W)) ∧ w'.cell? ⟨gq, 3, none⟩ = some (.int .i64 (y / W))) (by kernel_rfl) ?_ (fun hHeld => ?_)
          · (try dsimp only)
            exact ⟨b0, q0, q1, q2, q3⟩
          refine wpAnyH_take (i := 0) (oi := ⟨_, _, _, _, _, _⟩) (v := ?_) rfl (by kernel_rfl) (by kernel_rfl) (by kernel_rfl) (fun _ _ _ h => h) (Or.inl ⟨by rfl, ?_⟩) (by assumption) ?_
          rotate_left
          · intro w hSw
            (try dsimp only at hSw)
            go_simp
            (try with_reducible rfl)
          (try simp only [Act.put, List.setIfInBounds_toArray, List.set_cons_zero, List.set_cons_succ])
          refine wpAnyH_take (i := 1) (oi := ⟨_, _, _, _, _, _⟩) (v := ?_) rfl (by kernel_rfl) (by kernel_rfl) (by kernel_rfl) (fun _ _ _ h => h) (Or.inl ⟨by rfl, ?_⟩) (by assumption) ?_
          rotate_left
          · intro w hSw
            (try dsimp only at hSw)
            go_simp
            (try with_reducible rfl)
          (try simp only [Act.put, List.setIfInBounds_toArray, List.set_cons_zero, List.set_cons_succ])
          refine wpAnyH_take (i := 2) (oi := ⟨_, _, _, _, _, _⟩) (v := ?_) rfl (by kernel_rfl) (by kernel_rfl) (by kernel_rfl) (fun _ _ _ h => h) (Or.inl ⟨by rfl, ?_⟩) (by assumption) ?_
          rotate_left
          · intro w hSw
            (try dsimp only at hSw)
            go_simp
            (try with_reducible rfl)
          (try simp only [Act.put, List.setIfInBounds_toArray, List.set_cons_zero, List.set_cons_succ])
          refine wpAnyH_take (i := 3) (oi := ⟨_, _, _, _, _, _⟩) (v := ?_) rfl (by kernel_rfl) (by kernel_rfl) (by kernel_rfl) (fun _ _ _ h => h) (Or.inl ⟨by rfl, ?_⟩) (by assumption) ?_
          rotate_left
          · intro w hSw
            (try dsimp only at hSw)
            go_simp
            (try with_reducible rfl)
          (try simp only [Act.put, List.setIfInBounds_toArray, List.set_cons_zero, List.set_cons_succ])
          refine wpAnyH_take (i := 4) (oi := ⟨_, _, _, _, _, _⟩) (v := ?_) rfl (by kernel_rfl) (by kernel_rfl) (by kernel_rfl) (fun _ _ _ h => h) (Or.inl ⟨by rfl, ?_⟩) (by assumption) ?_
          rotate_left
          · intro w hSw
            (try dsimp only at hSw)
            go_simp
            (try with_reducible rfl)
          (try simp only [Act.put, List.setIfInBounds_toArray, List.set_cons_zero, List.set_cons_succ])
          refine wpAnyH_take (i := 6) (oi := ⟨_, _, _, _, _, _⟩) (v := ?_) rfl (by kernel_rfl) (by kernel_rfl) (by kernel_rfl) (fun _ _ _ h => h) (Or.inl ⟨by rfl, ?_⟩) (by assumption) ?_
          rotate_left
          · intro w hSw
            (try dsimp only at hSw)
            go_simp
            (try with_reducible rfl)
          (try simp only [Act.put, List.setIfInBounds_toArray, List.set_cons_zero, List.set_cons_succ])
          refine wpAnyH_take (i := 7) (oi := ⟨_, _, _, _, _, _⟩) (v := ?_) rfl (by kernel_rfl) (by kernel_rfl) (by kernel_rfl) (fun _ _ _ h => h) (Or.inl ⟨by rfl, ?_⟩) (by assumption) ?_
          rotate_left
          · intro w hSw
            (try dsimp only at hSw)
            go_simp
            (try with_reducible rfl)
          (try simp only [Act.put, List.setIfInBounds_toArray, List.set_cons_zero, List.set_cons_succ])
          refine wpAnyH_take (i := 8) (oi := ⟨_, _, _, _, _, _⟩) (v := ?_) rfl (by kernel_rfl) (by kernel_rfl) (by kernel_rfl) (fun _ _ _ h => h) (Or.inl ⟨by rfl, ?_⟩) (by assumption) ?_
          rotate_left
          · intro w hSw
            (try dsimp only at hSw)
            go_simp
            (try with_reducible rfl)
          (try simp only [Act.put, List.setIfInBounds_toArray, List.set_cons_zero, List.set_cons_succ])
          refine wpAnyH_take (i := 9) (oi := ⟨_, _, _, _, _, _⟩) (v := ?_) rfl (by kernel_rfl) (by kernel_rfl) (by kernel_rfl) (fun _ _ _ h => h) (Or.inl ⟨by rfl, ?_⟩) (by assumption) ?_
          rotate_left
          · intro w hSw
            (try dsimp only at hSw)
            go_simp
            (try with_reducible rfl)
          (try simp only [Act.put, List.setIfInBounds_toArray, List.set_cons_zero, List.set_cons_succ])
          refine wpAnyH_ready (rs := [5]) (by kernel_rfl) (by simp) ?_
          refine AllReadyH.cons (o := ⟨_, _, _, _, _, _⟩) rfl (fun K hK => ?_) AllReadyH.nil
          go_simp
          (go_at_call 27; refine (number_any (x % W) (x / W) W _ HXA.out HXB.out).mono ?_; rw [num_of]; rintro e w8 ⟨rfl, hb⟩; (repeat (first | replace hb := below_undrew hb | replace hb := below_undrewN hb)); replace b0 := cell_keep b0 bl hb; replace bl := lt_keep bl hb; replace q0 := cell_keep q0 ql hb; replace q1 := cell_keep q1 ql hb; replace q2 := cell_keep q2 ql hb; replace q3 := cell_keep q3 ql hb; replace ql := lt_keep ql hb; replace HP := Lib.hid (HP.out.keep hb); replace HB := Lib.hid (below_next HB.out hb); replace htop := Lib.hid (Nat.le_trans htop.out hb.size); replace hsw := Lib.hid (Nat.le_trans hsw.out hb.size); replace LB := Lib.hid (LB.out.keep hb); clear hb)
          (try go_wp2_with fail)
          refine hK.out _ _ ?_ (fun hHeld => ?_)
          · (try dsimp only)
            exact ⟨b0, q0, q1, q2, q3⟩
          clear hK K
          (try simp only [Act.put, List.setIfInBounds_toArray, List.set_cons_zero, List.set_cons_succ])
          refine wpAnyH_ready (rs := [10]) (by kernel_rfl) (by simp) ?_
          refine AllReadyH.cons (o := ⟨_, _, _, _, _, _⟩) rfl (fun K hK => ?_) AllReadyH.nil
          go_simp
          (go_at_call 27; refine (number_any (y % W) (y / W) W _ HYA9.out HYB.out).mono ?_; rw [num_of]; rintro e w8 ⟨rfl, hb⟩; (repeat (first | replace hb := below_undrew hb | replace hb := below_undrewN hb)); replace b0 := cell_keep b0 bl hb; replace bl := lt_keep bl hb; replace q0 := cell_keep q0 ql hb; replace q1 := cell_keep q1 ql hb; replace q2 := cell_keep q2 ql hb; replace q3 := cell_keep q3 ql hb; replace ql := lt_keep ql hb; replace HP := Lib.hid (HP.out.keep hb); replace HB := Lib.hid (below_next HB.out hb); replace htop := Lib.hid (Nat.le_trans htop.out hb.size); replace hsw := Lib.hid (Nat.le_trans hsw.out hb.size); replace LB := Lib.hid (LB.out.keep hb); clear hb)
          (try go_wp2_with fail)
          refine hK.out _ _ ?_ (fun hHeld => ?_)
          · (try dsimp only)
            exact ⟨b0, q0, q1, q2, q3⟩
          clear hK K
          (try simp only [Act.put, List.setIfInBounds_toArray, List.set_cons_zero, List.set_cons_succ])
          refine wpAnyH_ready (rs := [11]) (by kernel_rfl) (by simp) ?_
          refine AllReadyH.cons (o := ⟨_, _, _, _, _, _⟩) rfl (fun K hK => ?_) AllReadyH.nil
          go_simp
          obtain ⟨w9, hw9⟩ : ∃ w9, w9 = w8.alloc (.cells #[.int .i64 x, .int .i64 y] 3) := ⟨_, rfl⟩
          have hb : Below w8.heap.size w8 w9 := by rw [hw9]; exact below_new (Below.refl _ _) _
          have OW := Lib.hid (show OwnI 3 w9 w5.heap.size (some ⟨w8.heap.size, 0, none⟩) 2 2 [x, y] by rw [hw9]; exact own_two w8 x y w5.heap.size hsw.out)
          have hgw : w8.heap.size < w9.heap.size := by rw [hw9]; simp
          obtain ⟨gw, hgw9⟩ : ∃ gw, gw = w8.heap.size := ⟨_, rfl⟩
          have HTG := Lib.hid (show top ≤ gw by rw [hgw9]; exact htop.out)
          rw [← hw9]
          rw [← hgw9] at hgw OW ⊢
          clear hw9
          replace b0 := cell_keep b0 bl hb; replace bl := lt_keep bl hb; replace q0 := cell_keep q0 ql hb; replace q1 := cell_keep q1 ql hb; replace q2 := cell_keep q2 ql hb; replace q3 := cell_keep q3 ql hb; replace ql := lt_keep ql hb; replace HP := Lib.hid (HP.out.keep hb); replace HB := Lib.hid (below_next HB.out hb); replace htop := Lib.hid (Nat.le_trans htop.out hb.size); replace hsw := Lib.hid (Nat.le_trans hsw.out hb.size); replace LB := Lib.hid (LB.out.keep hb)
          clear hb hgw9
          (try go_wp2_with fail)
          refine hK.out _ _ ?_ (fun hHeld => ?_)
          · (try dsimp only)
            exact ⟨b0, q0, q1, q2, q3⟩
          clear hK K
          (try simp only [Act.put, List.setIfInBounds_toArray, List.set_cons_zero, List.set_cons_succ])
          refine wpAnyH_ready (rs := [12]) (by kernel_rfl) (by simp) ?_
          refine AllReadyH.cons (o := ⟨_, _, _, _, _, _⟩) rfl (fun K hK => ?_) AllReadyH.nil
          go_simp
          obtain ⟨wA, hwA⟩ : ∃ wA, wA = w9.alloc (.cells #[.slice (some ⟨gw, 0, none⟩) 2 2] 22) := ⟨_, rfl⟩
          have hb : Below w9.heap.size w9 wA := by rw [hwA]; exact below_new (Below.refl _ _) _
          have HYA : ∀ j u, ([((some ⟨gw, 0, none⟩, 2, 2) : SlV)].flatMap encS)[j]? = some u → wA.cell? (Addr.add ⟨w9.heap.size, 0, none⟩ j) = some u := fun j u hj => by
            rw [hwA]
            rcases j with _ | j
            · injection hj with hj; subst hj; go_simp
            · simp [encS] at hj
          rw [← hwA]
          clear hwA
          replace OW := Lib.hid (OW.out.keep hb)
          replace hgw := Nat.lt_of_lt_of_le hgw hb.size
          replace b0 := cell_keep b0 bl hb; replace bl := lt_keep bl hb; replace q0 := cell_keep q0 ql hb; replace q1 := cell_keep q1 ql hb; replace q2 := cell_keep q2 ql hb; replace q3 := cell_keep q3 ql hb; replace ql := lt_keep ql hb; replace HP := Lib.hid (HP.out.keep hb); replace HB := Lib.hid (below_next HB.out hb); replace htop := Lib.hid (Nat.le_trans htop.out hb.size); replace hsw := Lib.hid (Nat.le_trans hsw.out hb.size); replace LB := Lib.hid (LB.out.keep hb)
          clear hb
          (try go_wp2_with fail)
          refine hK.out _ _ ?_ (fun hHeld => ?_)
          · (try dsimp only)
            exact ⟨b0, q0, q1, q2, q3⟩
          clear hK K
          (try simp only [Act.put, List.setIfInBounds_toArray, List.set_cons_zero, List.set_cons_succ])
          refine wpAnyH_ready (rs := [13]) (by kernel_rfl) (by simp) ?_
          refine AllReadyH.cons (o := ⟨_, _, _, _, _, _⟩) rfl (fun K hK => ?_) AllReadyH.nil
          refine step_appKg (enc := encS) (k := 1) rfl (.tmp 36) (.tmp 48) 28 22 rfl i0 (.slice none 0 0) 24 Tryz.underlying28 HI.out HZ0.out HZ2.out HZ3.out rfl (by decide) (by decide) (fun _ => rfl) (fun v u hu => by simp [encS] at hu; subst hu; rfl) w5.heap.size A' n' c' vs _ 1 _ [((some ⟨gw, 0, none⟩, 2, 2) : SlV)] (by rfl) HP.out.1 (by rfl) rfl HYA (by omega) hsw.out ?_
          intro A7 c7 wB hO7 hg7 hb7
          have P7 := Lib.hid (HP.out.snoc (top' := gw + 1) OW.out (fun y hy => by injection hy with hy; rw [← hy]; exact ⟨HTG.out, Nat.lt_succ_self _⟩) (by have := HTG.out; omega) hO7 hg7)
          have hs7 := Lib.hid (show gw + 1 ≤ wB.heap.size from Nat.le_trans hgw hb7.size)
          replace b0 := (hb7.cell (p := ⟨w.heap.size, 0, none⟩) AL.out).trans b0
          replace HB := Lib.hid (HB.out.trans hb7)
          have hqk : ∀ i v, wA.cell? ⟨gq, i, none⟩ = some v → wB.cell? ⟨gq, i, none⟩ = some v := fun i v h => hg7.cell h (by
            rcases A' with _ | g
            · simp [rowOf]
            · have := LB.out.apart HP.out.1.2
              simp [rowOf]; exact fun e => this e.symm)
          replace q0 := hqk _ _ q0; replace q1 := hqk _ _ q1; replace q2 := hqk _ _ q2; replace q3 := hqk _ _ q3
          clear hO7 hg7 hb7 hqk
          refine hK.out _ _ ?_ (fun hHeld => ?_)
          · (try dsimp only)
            exact ⟨b0, q0, q1, q2, q3⟩
          clear hK K
          (try simp only [Act.put, List.setIfInBounds_toArray, List.set_cons_zero, List.set_cons_succ])
          refine wpAnyH_take (i := 14) (oi := ⟨_, _, _, _, _, _⟩) (v := ?_) rfl (by kernel_rfl) (by kernel_rfl) (by kernel_rfl) (fun _ _ _ h => h) (Or.inl ⟨by rfl, ?_⟩) (by assumption) ?_
          rotate_left
          · intro w hSw
            (try dsimp only at hSw)
            go_simp
            (try with_reducible rfl)
          (try simp only [Act.put, List.setIfInBounds_toArray, List.set_cons_zero, List.set_cons_succ])
          refine wpAnyH_done (by kernel_rfl) ?_ _
          go_wp2
          go_roundw
          case rel => exact ⟨k + 1, n' + 1, c7, gw + 1, A7, vs ++ [(some ⟨gw, 0, none⟩, 2, 2)], by omega, by go_num, rfl, by omega, (by rw [HV.out, List.map_append]; exact P7.out), hs7.out, HB.out⟩
          case measure => simp [intOf]; omega
        | false =>
          have HD := Lib.hid (HCD.out.trans hd)
          have HV := Lib.hid (show (((pairsL W H xs a b).take (k + 1)).filter fun z => doB W z.1 z.2 f t) = (((pairsL W H xs a b).take k).filter fun z => doB W z.1 z.2 f t) from take_no HZ.out hd)
          clear hd
          go_upto_region 8 with fail
          obtain ⟨w6, hw6⟩ : ∃ w6, w6 = wr.alloc (.cells #[.int .i64 (x % W), .int .i64 (x / W), .int .i64 (y % W), .int .i64 (y / W)] 52) := ⟨_, rfl⟩
          obtain ⟨gq, hgq⟩ : ∃ gq, gq = wr.heap.size := ⟨_, rfl⟩
          have q0 : w6.cell? ⟨gq, 0, none⟩ = some (.int .i64 (x % W)) := by rw [hw6, hgq]; go_simp
          have q1 : w6.cell? ⟨gq, 1, none⟩ = some (.int .i64 (x / W)) := by rw [hw6, hgq]; go_simp
          have q2 : w6.cell? ⟨gq, 2, none⟩ = some (.int .i64 (y % W)) := by rw [hw6, hgq]; go_simp
          have q3 : w6.cell? ⟨gq, 3, none⟩ = some (.int .i64 (y / W)) := by rw [hw6, hgq]; go_simp
          have ql : gq < w6.heap.size := by rw [hw6, hgq]; simp
          have hb : Below wr.heap.size wr w6 := by rw [hw6]; exact below_new (Below.refl _ _) _
          have LB := Lib.hid (show LineBox w6 gq from by rw [hw6, hgq]; exact LineBox.new _ _)
          rw [← hw6, ← hgq]
          replace b0 := cell_keep b0 bl hb; replace bl := lt_keep bl hb; replace e0 := cell_keep e0 el hb; replace e1 := cell_keep e1 el hb; replace e2 := cell_keep e2 el hb; replace e3 := cell_keep e3 el hb; replace el := lt_keep el hb
          replace HP := Lib.hid (HP.out.keep hb); replace HB := Lib.hid (below_next HB.out hb); replace htop := Lib.hid (Nat.le_trans htop.out hb.size); replace hsw := Lib.hid (Nat.le_trans hsw.out hb.size)
          clear hw6 hgq hb x0 x1 x2 x3
          go_wp2_with fail
          refine (crosses_any (x % W) (x / W) (y % W) (y / W) (lnL W f t).1.1 (lnL W f t).1.2 (lnL W f t).2.1 (lnL W f t).2.2 _ CX.out.1 CX.out.2 CY.out.1 CY.out.2 CF.out.1.1 CF.out.1.2 CF.out.2.1 CF.out.2.2).mono ?_
          rw [HD.out]
          rintro e w8 ⟨rfl, hb⟩
          replace b0 := cell_keep b0 bl hb; replace bl := lt_keep bl hb; replace q0 := cell_keep q0 ql hb; replace q1 := cell_keep q1 ql hb; replace q2 := cell_keep q2 ql hb; replace q3 := cell_keep q3 ql hb; replace ql := lt_keep ql hb; replace HP := Lib.hid (HP.out.keep hb); replace HB := Lib.hid (below_next HB.out hb); replace htop := Lib.hid (Nat.le_trans htop.out hb.size); replace hsw := Lib.hid (Nat.le_trans hsw.out hb.size); replace LB := Lib.hid (LB.out.keep hb)
          clear hb e0 e1 e2 e3 el
          go_wp2
          go_roundw
          case rel => exact ⟨k + 1, n', c', top, A', vs, by omega, by go_num, rfl, by omega, (by rw [HV.out]; exact HP.out), htop.out, HB.out⟩
          case measure => simp [intOf]; omega
      · have HE := Lib.hid (show crossedV W H xs a b f t = ((((pairsL W H xs a b).take k).filter fun z => doB W z.1 z.2 f t).map pairL) by rw [crossedV, if_pos HOK.out, crossedP, List.take_of_length_le (by rw [HLL.out]; omega)])
        have kn : ¬ (k : Int) < (n1 : Int) := by omega
        clear hpv hbw
        go_wp2
        go_ret2
        exact ⟨_, _, _, by rw [HOK.out]; rfl, by rw [HE.out]; exact OwnSS.of (HP.out.parts.lower B.out.size), below_next B.out HB.out⟩
  · have hk' : (lenB2 [f, t] && okPa W H xs a b [f, t]) = false := by simpa using hk
    have hz9 : okCl W H xs a b f t = false := by rw [okCl_impl, hk']
    have HK := Lib.hid hk'
    clear hk hk'
    go_enter Tryz.func9, Tryz.ntmps9
    go_upto_region 1 with fail
    rw [← hW2]
    clear hW2
    go_wp2_with fail
    refine (isLeapOn_any W H A n c xs a b _ _ _ [f, t] _ (R.out.alloc _) (own_two W2 f t W2.heap.size (Nat.le_refl _)).rd).mono ?_
    rw [HK.out]
    rintro e w3 ⟨rfl, hb9⟩
    have hb := below_box hb9
    clear hb9
    replace a0 := cell_keep a0 al hb; replace a1 := cell_keep a1 al hb; replace a2 := cell_keep a2 al hb; replace al := lt_keep al hb; replace l0 := cell_keep l0 ll hb; replace l1 := cell_keep l1 ll hb; replace ll := lt_keep ll hb; replace R := Lib.hid (R.out.keep hb); replace B := Lib.hid (below_next B.out hb)
    clear hb
    go_wp2
    go_ret2
    exact ⟨none, 0, 0, by rw [hz9]; rfl, by rw [crossedV, if_neg (by rw [hz9]; simp)]; exact OwnSS.of (PartsAt.none_ _ _ 0), B.out⟩

end Go.Proofs.YtjlcaggnfocabaaGreat
