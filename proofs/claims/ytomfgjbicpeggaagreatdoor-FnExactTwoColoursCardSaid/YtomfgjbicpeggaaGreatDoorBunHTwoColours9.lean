/-
  Contracts: whether no leap joins two cells of one colour, in the model (no table is read).
  Two colours by parts are a painting, in plain terms: no leap joins two cells of one colour.
  Contracts: two colours by parts, in the model.
  The cells of a set as an iterator whose caller may stop it; a range that may be left.
  Contracts: whether no two of some cells are near to each other.
  Contracts: slices.Repeat of one number.
-/
import Derived.Test.YtomfgjbicpeggaaGreatDoorBunHTwoColours5
import Derived.Deep.RegionHeld3
import Derived.Test.YtomfgjbicpeggaaGreatDoorBunHTwoColours8
import Derived.Test.YtomfgjbicpeggaaGreatDoorBunHTwoColours3
import Derived.Test.YtomfgjbicpeggaaGreatDoorBunHTwoColours4
import Derived.Sort.QuietIn
import Derived.BigRegionIn
import Derived.Test.YtomfgjbicpeggaaGreatDoorBunHTwoColours1
import Derived.Test.YtomfgjbicpeggaaGreatDoorBunHTwoColours2
import Derived.Laws.CopyOwn
import Derived.Deep.MidRow
import Derived.IntWalk
namespace Go.Proofs.YtomfgjbicpeggaaGreatDoor
open Go.RowKit

def cAt (cs : List Int) (x : Int) : Int := cs.getD x.toNat 0
/-- No leap joins two cells of one colour. -/
def paIsB (W H : Int) (xs : List Int) (a b : Int) (cs : List Int) : Bool := (cellsL W H xs).all fun c => (leapsL W H xs a b c).all fun d => !(cAt cs c == cAt cs d)
theorem cells_rng64 {W H : Int} {xs : List Int} (hg : goodB W H xs = true) : ∀ x ∈ cellsL W H xs, 0 ≤ x ∧ x < 64 := fun x hx => by
  have h1 := (hasB_iff.1 (cellsL_mem.1 hx)).1
  obtain ⟨hW, hH, _, _⟩ := goodB_iff.1 hg
  have := cells_le hW hH
  omega
theorem cAt_of {cs : List Int} {x : Int} (h1 : x.toNat < cs.length) : cs[x.toNat]? = some (cAt cs x) := by
  rw [cAt, List.getD_eq_getElem?_getD, List.getElem?_eq_getElem h1]; rfl

set_option maxRecDepth 100000 in
set_option maxHeartbeats 4000000 in
theorem paIs_any (W H : Int) (A : Option Addr) (n c : Nat) (xs : List Int) (a b : Int) (A2 : Option Addr) (m c2 : Nat) (cs : List Int) (w : World) (ha : Rd w A n xs) (hc : Rd w A2 m cs) (hg : goodB W H xs = true) (hlen : (cs.length : Int) = W * H) :
    Calls Tryz.prog 26 #[brd W H A n c, lpr a b, .slice A2 m c2] w fun e w' => e = .returned (.bool (paIsB W H xs a b cs)) ∧ Below w.heap.size w w' := by
  have HG := Lib.hid hg
  have HN := Lib.hid (cells_le (goodB_iff.1 hg).1 (goodB_iff.1 hg).2.1)
  have HML := Lib.hid hc.1
  have m9 := hc.2.1
  have HLEN := Lib.hid hlen
  obtain ⟨W2, hW2⟩ : ∃ W2, W2 = (w.alloc (.cells #[.int .i64 W, .int .i64 H, .slice A n c] 30)).alloc (.cells #[.int .i64 a, .int .i64 b] 32) := ⟨_, rfl⟩
  have a0 : W2.cell? ⟨w.heap.size, 0, none⟩ = some (.int .i64 W) := by rw [hW2]; go_simp
  have a1 : W2.cell? ⟨w.heap.size, 1, none⟩ = some (.int .i64 H) := by rw [hW2]; go_simp
  have a2 : W2.cell? ⟨w.heap.size, 2, none⟩ = some (.slice A n c) := by rw [hW2]; go_simp
  have l0 : W2.cell? ⟨w.heap.size + 1, 0, none⟩ = some (.int .i64 a) := by rw [hW2]; go_simp
  have l1 : W2.cell? ⟨w.heap.size + 1, 1, none⟩ = some (.int .i64 b) := by rw [hW2]; go_simp
  have hsz : w.heap.size + 2 ≤ W2.heap.size := by rw [hW2]; simp
  have B := Lib.hid (show Below w.heap.size w W2 by rw [hW2]; exact below_new (below_new (Below.refl _ _) _) _)
  have R := Lib.hid (ha.keep B.out); have RC := Lib.hid hc
  have ga : w.heap.size < W2.heap.size := by omega
  have gl : w.heap.size + 1 < W2.heap.size := by omega
  clear hg ha hc hlen
  go_enter Tryz.func26, Tryz.ntmps26
  go_wp2_with fail
  rw [← hW2]
  clear hW2
  refine (boCells_any W H A n c xs _ R.out HN.out).mono ?_
  rintro e ws ⟨A1, n1, c1, rfl, hst, hb⟩
  replace a0 := cell_keep a0 ga hb; replace a1 := cell_keep a1 ga hb; replace a2 := cell_keep a2 ga hb; replace l0 := cell_keep l0 gl hb; replace l1 := cell_keep l1 gl hb; replace ga := lt_keep ga hb; replace gl := lt_keep gl hb; replace R := Lib.hid (R.out.keep hb)
  replace B := Lib.hid (below_next B.out hb)
  have ST := Lib.hid hst.rd
  have SL := Lib.hid hst.len
  have n8 : n1 ≤ 64 := by have := cellsL_len64 (xs := xs) HN.out; have := hst.len; omega
  clear hst hb hsz
  go_wp2
  go_loopw [14] (fun i wr => ∃ k : Nat, k ≤ n1 ∧ i = .int .i64 k ∧ ((cellsL W H xs).take k).all (fun c => (leapsL W H xs a b c).all fun d => !(cAt cs c == cAt cs d)) = true ∧ Below ws.heap.size ws wr) (fun i _ => n1 - (intOf i).toNat)
  case atStart => exact ⟨0, Nat.zero_le _, rfl, by simp, Below.refl _ _⟩
  case round =>
    obtain ⟨k, hk, rfl, hall, hbw⟩ := hrel
    have HALL := Lib.hid hall
    have HB := Lib.hid hbw
    clear hall
    by_cases hlt : k < n1
    · obtain ⟨bb, oo, x, rfl, hg1, hx, x0⟩ := ST.out.at_ hlt
      have HX := Lib.hid hx
      have hxm := List.mem_of_getElem? hx
      obtain ⟨hx0, hx1⟩ := cells_rng64 HG.out x hxm
      have hxN : x.toNat < m := by have := (hasB_iff.1 (cellsL_mem.1 hxm)).1; have := HLEN.out; have := HML.out; omega
      obtain ⟨p, rfl⟩ : ∃ p : Nat, x = (p : Int) := ⟨x.toNat, by omega⟩
      rw [Int.toNat_natCast] at hxN
      have HXM := Lib.hid hxm
      replace x0 := cell_keep x0 hg1 hbw
      have b0 := cell_keep a0 ga hbw; have b1 := cell_keep a1 ga hbw; have b2 := cell_keep a2 ga hbw; have m0 := cell_keep l0 gl hbw; have m1 := cell_keep l1 gl hbw
      have gb := lt_keep ga hbw; have gm := lt_keep gl hbw
      have hL := boLeaps_any W H A n c xs a b (p : Int) wr (R.out.keep hbw) HG.out ⟨hx0, by omega⟩
      clear hx hbw hxm hg1
      go_wp2_with fail
      refine hL.mono ?_
      rintro e wv ⟨A3, n3, c3, rfl, hown, hb⟩
      replace b0 := cell_keep b0 gb hb; replace b1 := cell_keep b1 gb hb; replace b2 := cell_keep b2 gb hb; replace m0 := cell_keep m0 gm hb; replace m1 := cell_keep m1 gm hb
      have LT := Lib.hid hown.rd
      have LL := Lib.hid hown.len
      have n9 : n3 ≤ 64 := by have := leapsL_len64 (a := a) (b := b) (q := (p : Int)) (xs := xs) HN.out; have := hown.len; omega
      have HV := Lib.hid (HB.out.trans (hb.mono HB.out.size))
      clear hb hown hL x0
      go_wp2
      go_loopw [23] (fun i wr => ∃ j : Nat, j ≤ n3 ∧ i = .int .i64 j ∧ ((leapsL W H xs a b p).take j).all (fun d => !(cAt cs p == cAt cs d)) = true ∧ Below wv.heap.size wv wr) (fun i _ => n3 - (intOf i).toNat)
      case atStart => exact ⟨0, Nat.zero_le _, rfl, by simp, Below.refl _ _⟩
      case round =>
        obtain ⟨j, hj, rfl, hallj, hbj⟩ := hrel
        rename_i wz
        have HALJ := Lib.hid hallj
        have HBJ := Lib.hid hbj
        have HW0 := Lib.hid (B.out.trans ((HV.out.trans (hbj.mono HV.out.size)).mono B.out.size))
        clear hallj
        by_cases hltj : j < n3
        · obtain ⟨b3, o3, y, rfl, hg3, hy, y0⟩ := LT.out.at_ hltj
          have HY := Lib.hid hy
          have hym := (List.mem_filter.1 (List.mem_of_getElem? hy)).1
          obtain ⟨hy0, hy1⟩ := cells_rng64 HG.out y hym
          have hyN : y.toNat < m := by have := (hasB_iff.1 (cellsL_mem.1 hym)).1; have := HLEN.out; have := HML.out; omega
          obtain ⟨q, rfl⟩ : ∃ q : Nat, y = (q : Int) := ⟨y.toNat, by omega⟩
          rw [Int.toNat_natCast] at hyN
          replace y0 := cell_keep y0 hg3 hbj
          obtain ⟨b4, o4, u, rfl, hg4, hu, u0⟩ := RC.out.at_ hxN
          obtain ⟨b5, o5, v, e5, hg5, hv, v0⟩ := RC.out.at_ hyN
          obtain ⟨rfl, rfl⟩ : b4 = b5 ∧ o4 = o5 := by simp at e5; exact e5
          replace u0 := cell_keep u0 hg4 HW0.out
          replace v0 := cell_keep v0 hg5 HW0.out
          have HU := Lib.hid (show cAt cs (p : Int) = u by have := cAt_of (x := (p : Int)) (cs := cs) (by have := HML.out; omega); rw [Int.toNat_natCast, hu] at this; injection this with this; exact this.symm)
          have HV2 := Lib.hid (show cAt cs (q : Int) = v by have := cAt_of (x := (q : Int)) (cs := cs) (by have := HML.out; omega); rw [Int.toNat_natCast, hv] at this; injection this with this; exact this.symm)
          clear hy hym hu hv hbj e5 hg3 hg4 hg5
          cases huv : (u == v) with
          | true =>
            have HUV := Lib.hid huv
            go_wp2
            go_quiet (fail)
            go_wp2
            go_ret
            exact ⟨ret_bool (by
              symm; rw [paIsB, Bool.eq_false_iff]; intro h
              have h1 := List.all_eq_true.1 (List.all_eq_true.1 h (p : Int) HXM.out) (q : Int) (List.mem_of_getElem? HY.out)
              rw [HU.out, HV2.out, HUV.out] at h1; cases h1), below_drewN HW0.out _⟩
          | false =>
            have HUV := Lib.hid huv
            go_wp2
            go_quiet (fail)
            go_wp2
            go_roundw
            case rel => exact ⟨j + 1, by omega, by go_num, by rw [List.take_add_one, HY.out, List.all_append, HALJ.out]; simp [HU.out, HV2.out, HUV.out], below_drewN HBJ.out _⟩
            case measure => simp [intOf]; omega
        · have hjn : j = n3 := by omega
          subst hjn
          have HE := Lib.hid (show (leapsL W H xs a b p).all (fun d => !(cAt cs p == cAt cs d)) = true by have h := HALJ.out; rw [List.take_of_length_le (by have := LL.out; omega)] at h; exact h)
          clear hbj
          go_wp2
          go_roundw
          case rel => exact ⟨k + 1, by omega, by go_num, by rw [List.take_add_one, HX.out, List.all_append, HALL.out]; simpa using HE.out, HV.out.trans (HBJ.out.mono HV.out.size)⟩
          case measure => simp [intOf]; omega
    · have hkn : k = n1 := by omega
      subst hkn
      clear hbw
      go_wp2
      go_ret
      exact ⟨ret_bool (by have h := HALL.out; rw [List.take_of_length_le (by have := SL.out; omega)] at h; rw [paIsB, h]), B.out.trans (HB.out.mono B.out.size)⟩
end Go.Proofs.YtomfgjbicpeggaaGreatDoor

namespace Go.Proofs.YtomfgjbicpeggaaGreatDoor
open Go.RowKit

end Go.Proofs.YtomfgjbicpeggaaGreatDoor

namespace Go.Proofs.YtomfgjbicpeggaaGreatDoor
open Go.RowKit

def shrT (a b : Int) : Int := if a % 2 = 0 ∧ b % 2 = 0 then (if a % 4 = 0 ∧ b % 4 = 0 then 4 else 2) else 1
def kapT (a b X Y : Int) : Int := if (a / shrT a b + b / shrT a b) % 2 = 1 then (X / shrT a b + Y / shrT a b) % 2 else X / shrT a b % 2
theorem abs_or (x a : Int) (h : absV x = a) : x = a ∨ x = -a := by unfold absV at h; split at h <;> omega
theorem kap_flip {a b : Int} (h : leaperB a b = true) : ∀ X Y X' Y' : Int, stepB a b (X - X') (Y - Y') = true → (kapT a b X Y + kapT a b X' Y') % 2 = 1 :=
  leaper_cases (P := fun a b => ∀ X Y X' Y' : Int, stepB a b (X - X') (Y - Y') = true → (kapT a b X Y + kapT a b X' Y') % 2 = 1) h (by
    intro a ha b hb hab X Y X' Y' hs
    rw [stepB_iff] at hs
    have hs2 : ((X - X' = a ∨ X - X' = -a) ∧ (Y - Y' = b ∨ Y - Y' = -b)) ∨ ((X - X' = b ∨ X - X' = -b) ∧ (Y - Y' = a ∨ Y - Y' = -a)) := by
      rcases hs with ⟨h1, h2⟩ | ⟨h1, h2⟩
      · exact Or.inl ⟨abs_or _ _ h1, abs_or _ _ h2⟩
      · exact Or.inr ⟨abs_or _ _ h1, abs_or _ _ h2⟩
    clear hs
    simp only [List.mem_cons, List.not_mem_nil, or_false] at ha hb
    rcases ha with rfl | rfl | rfl | rfl | rfl | rfl <;> rcases hb with rfl | rfl | rfl | rfl | rfl <;> first
      | (exfalso; omega)
      | (simp only [kapT, shrT, Int.reduceMod, Int.reduceDiv, Int.reduceAdd, Int.reduceEq, and_self, and_true, and_false, if_true, if_false]; omega))
def kapC (W a b x : Int) : Int := kapT a b (x % W) (x / W)
theorem leap_flip {W H a b c d : Int} {xs : List Int} (hl : leaperB a b = true) (hd : d ∈ leapsL W H xs a b c) : (kapC W a b c + kapC W a b d) % 2 = 1 := by
  have h := (List.mem_filter.1 hd).2
  exact kap_flip hl _ _ _ _ h

/-! ### Distances and colours -/
def ParT (g : Int → Int) (z : Int) (far : List Int) : Prop := ∀ i : Nat, 0 ≤ far.getD i (-1) → (far.getD i (-1) + g (i : Int) + z) % 2 = 0
theorem visit_par {g : Int → Int} {z d : Int} : ∀ (l far q : List Int), (∀ x ∈ l, 0 ≤ x ∧ (d + 1 + g x + z) % 2 = 0) → ParT g z far → ParT g z (visit d l (far, q)).1
  | [], _, _, _, h => h
  | x :: t, far, q, hl, h => by
    have hx := hl x List.mem_cons_self
    rw [visit]
    split
    · refine visit_par t _ _ (fun y hy => hl y (List.mem_cons_of_mem _ hy)) (fun i hi => ?_)
      by_cases e : x.toNat = i
      · by_cases hlt : i < far.length
        · rw [List.getD_eq_getElem?_getD, List.getElem?_set, if_pos e, if_pos (by omega)]
          have : (i : Int) = x := by omega
          rw [this]; exact hx.2
        · rw [List.set_eq_of_length_le (by omega)] at hi ⊢; exact h i hi
      · rw [List.getD_eq_getElem?_getD, List.getElem?_set_ne e, ← List.getD_eq_getElem?_getD] at hi ⊢
        exact h i hi
    · exact visit_par t _ _ (fun y hy => hl y (List.mem_cons_of_mem _ hy)) h
theorem bfs_par {adj : Int → List Int} {N : Nat} {start : Int} {g : Int → Int} (hs : 0 ≤ start ∧ start < N) (ha : ∀ c : Int, 0 ≤ c ∧ c < N → ∀ x ∈ adj c, 0 ≤ x ∧ x < N) (hg : ∀ c, ∀ x ∈ adj c, (g c + g x) % 2 = 1) : ∀ k : Nat, ParT g (g start) (bfsTo adj N start k).1
  | 0 => fun i hi => by
    simp only [bfsTo] at hi ⊢
    by_cases e : start.toNat = i
    · rw [List.getD_eq_getElem?_getD, List.getElem?_set, if_pos e, if_pos (by simp; omega)]
      have : (i : Int) = start := by omega
      rw [this, Option.getD_some]; omega
    · rw [List.getD_eq_getElem?_getD, List.getElem?_set_ne e, List.getElem?_replicate] at hi
      split at hi <;> simp at hi
  | k + 1 => by
    have ih := bfs_par hs ha hg k
    cases hc : (bfsTo adj N start k).2[k]? with
    | none => rw [bfsTo, bfsStep, hc]; exact ih
    | some c =>
      rw [bfs_next hc]
      have hok := bfs_ok hs ha k
      have hcr := hok.range c (List.mem_of_getElem? hc)
      have hc0 := hok.seen c (List.mem_of_getElem? hc)
      have e0 := getD_lt (L := (bfsTo adj N start k).1) (i := c.toNat) (by rw [hok.len]; omega) (-1) 0
      have hcp := ih c.toNat (by rw [e0]; exact hc0)
      rw [e0, show ((c.toNat : Nat) : Int) = c by omega] at hcp
      exact visit_par (adj c) _ _ (fun x hx => ⟨(ha c hcr x hx).1, by have := hg c x hx; omega⟩) ih
theorem dist_par {W H a b p : Int} {xs : List Int} {N : Nat} (h : OnFacts W H xs a b N) (hp : hasB W H xs p = true) {i : Nat} (hd : 0 ≤ (distL W H xs a b p).getD i (-1)) : ((distL W H xs a b p).getD i (-1) + kapC W a b (i : Int) + kapC W a b p) % 2 = 0 := by
  have hN : (W * H).toNat = N := by have := h.wh; omega
  have hr := (hasB_iff.1 hp).1
  rw [h.wh] at hr
  have had : ∀ c : Int, 0 ≤ c ∧ c < (N : Int) → ∀ x ∈ leapsL W H xs a b c, 0 ≤ x ∧ x < (N : Int) := fun c _ x hx => leaps_in h.wh hx
  have e : distL W H xs a b p = (bfsTo (leapsL W H xs a b) N p N).1 := by rw [distL, hN]; rfl
  rw [e] at hd ⊢
  exact bfs_par hr had (fun c x hx => leap_flip h.l hx) N i hd
theorem in_parts {W H a b c : Int} {xs : List Int} {N : Nat} (h : OnFacts W H xs a b N) (hc : hasB W H xs c = true) : ∃ p ∈ partsL W H xs a b, c ∈ p := by
  have K := two_ok h (cellsL W H xs).length
  have e2 : partsTo W H xs a b (cellsL W H xs).length = partsL W H xs a b := by rw [partsTo, List.take_length]; rfl
  obtain ⟨j, hj, hjx⟩ := List.getElem_of_mem (cellsL_mem.2 hc)
  have hin := K.all j c hj (by rw [List.getElem?_eq_getElem hj, hjx])
  rw [e2, inParts, List.any_eq_true] at hin
  obtain ⟨p, hp, hx⟩ := hin
  exact ⟨p, hp, List.contains_iff_mem.1 hx⟩
theorem two_paints {W H a b : Int} {xs : List Int} {N : Nat} (h : OnFacts W H xs a b N) : paIsB W H xs a b (twoL W H xs a b) = true := by
  rw [paIsB, List.all_eq_true]
  intro c hc
  rw [List.all_eq_true]
  intro d hd
  have hcB := cellsL_mem.1 hc
  obtain ⟨p, hp, hcp⟩ := in_parts h hcB
  obtain ⟨hlen, hall⟩ := two_parts h
  obtain ⟨s, hs, rfl, -, hcol⟩ := hall p hp
  have hN : (W * H).toNat = N := by have := h.wh; omega
  have hsr := (hasB_iff.1 hs).1
  rw [h.wh] at hsr
  have had : ∀ c : Int, 0 ≤ c ∧ c < (N : Int) → ∀ x ∈ leapsL W H xs a b c, 0 ≤ x ∧ x < (N : Int) := fun c _ x hx => leaps_in h.wh hx
  obtain ⟨⟨c1, c2⟩, -, c3, c4⟩ := hcol c hcp
  have hdr := leaps_in h.wh hd
  have hd3 : 0 ≤ (distL W H xs a b s).getD d.toNat (-1) := by
    have e : distL W H xs a b s = farL (leapsL W H xs a b) N s := by rw [distL, hN]
    rw [e] at c3 ⊢
    exact far_step hsr had c1 c3 hd
  have hdp : d ∈ partL W H xs a b s := by
    have h7 := sel_contains (f := nearB (distL W H xs a b s) 64) (N := (W * H).toNat) (i := d.toNat) (by omega)
    rw [show ((d.toNat : Nat) : Int) = d by omega, partL_near h hs (by omega), decide_eq_true hd3] at h7
    exact List.contains_iff_mem.1 h7
  obtain ⟨-, -, d3, d4⟩ := hcol d hdp
  have p1 := dist_par h hs c3
  have p2 := dist_par h hs d3
  rw [show ((c.toNat : Nat) : Int) = c by omega] at p1
  rw [show ((d.toNat : Nat) : Int) = d by omega] at p2
  have pf := leap_flip h.l hd
  have k1 : cAt (twoL W H xs a b) c = (twoL W H xs a b).getD c.toNat (-1) := getD_lt (by omega) _ _
  have k2 : cAt (twoL W H xs a b) d = (twoL W H xs a b).getD d.toNat (-1) := getD_lt (by omega) _ _
  rw [k1, k2, ← c4, ← d4]
  simp only [Bool.not_eq_true', beq_eq_false_iff_ne, ne_eq]
  omega
end Go.Proofs.YtomfgjbicpeggaaGreatDoor

namespace Go.Proofs.YtomfgjbicpeggaaGreatDoor
open Go.RowKit

set_option maxRecDepth 100000 in
set_option maxHeartbeats 4000000 in
theorem paTwo_any (W H : Int) (A : Option Addr) (n c : Nat) (xs : List Int) (a b : Int) (N : Nat) (w : World) (ha : Rd w A n xs) (hF : OnFacts W H xs a b N) :
    Calls Tryz.prog 16 #[brd W H A n c, lpr a b] w fun e w' => ∃ g, e = .returned (.tuple #[.slice (some ⟨g, 0, none⟩) N N, .bool (paIsB W H xs a b (twoL W H xs a b))]) ∧ OwnI 3 w' w.heap.size (some ⟨g, 0, none⟩) N N (twoL W H xs a b) ∧ Below w.heap.size w w' := by
  have hWH := hF.wh
  have HWH := Lib.hid hWH
  have hg := hF.g
  have HF := Lib.hid hF
  clear hF
  have hN64 : N ≤ 64 := by obtain ⟨h1, h2, _, _⟩ := goodB_iff.1 hg; have := cells_le h1 h2; omega
  have hN0 : (0 : Int) ≤ (N : Int) := by omega
  obtain ⟨hW, hH, _, _⟩ := goodB_iff.1 hg
  have HW := Lib.hid hW; have HN := Lib.hid (cells_le hW hH)
  have HG := Lib.hid hg
  obtain ⟨i0, hi, hz0, hz1, hz2⟩ := info_parts infoI
  have HI := Lib.hid hi; have HZ0 := Lib.hid hz0; have HZ1 := Lib.hid hz1; have HZ2 := Lib.hid hz2
  clear hW hH hg hi hz0 hz1 hz2
  obtain ⟨W2, hW2⟩ : ∃ W2, W2 = (w.alloc (.cells #[.int .i64 W, .int .i64 H, .slice A n c] 30)).alloc (.cells #[.int .i64 a, .int .i64 b] 32) := ⟨_, rfl⟩
  have a0 : W2.cell? ⟨w.heap.size, 0, none⟩ = some (.int .i64 W) := by rw [hW2]; go_simp
  have a1 : W2.cell? ⟨w.heap.size, 1, none⟩ = some (.int .i64 H) := by rw [hW2]; go_simp
  have a2 : W2.cell? ⟨w.heap.size, 2, none⟩ = some (.slice A n c) := by rw [hW2]; go_simp
  have l0 : W2.cell? ⟨w.heap.size + 1, 0, none⟩ = some (.int .i64 a) := by rw [hW2]; go_simp
  have l1 : W2.cell? ⟨w.heap.size + 1, 1, none⟩ = some (.int .i64 b) := by rw [hW2]; go_simp
  have hsz : w.heap.size + 2 ≤ W2.heap.size := by rw [hW2]; simp
  have B := Lib.hid (show Below w.heap.size w W2 by rw [hW2]; exact below_new (below_new (Below.refl _ _) _) _)
  have R := Lib.hid (ha.keep B.out)
  have ga : w.heap.size < W2.heap.size := by omega
  have gl : w.heap.size + 1 < W2.heap.size := by omega
  go_enter Tryz.func16, Tryz.ntmps16
  go_wp2_with (at_make; refine wpList_make_full _ rfl _ _ 22 rfl w.heap.size 3 i0 (.int .i64 0) 1 Tryz.underlying22 HI.out HZ0.out HZ1.out .i64 .i64 _ _ N rfl rfl rfl rfl (by rw [HZ2.out]; omega) (by unfold maxLen; omega) (by simp; omega) ?_; intro w1 hown1 hg1)
  rw [← hW2] at hown1 hg1
  have hW2s : W2.heap.size = w.heap.size + 2 := by rw [hW2]; simp
  have hO1 : OwnI 3 w1 w.heap.size (some ⟨w.heap.size + 1 + 1, 0, none⟩) N N (List.replicate N 0) := by
    unfold OwnI
    rw [show N * 1 = N from by omega, hW2s] at hown1
    have e : (madeCells (Value.cells (.int .i64 0)) N).toList = List.replicate N (.int .i64 0) := toList_madeCells_one (.int .i64 0) N
    rw [e] at hown1
    simpa using hown1
  obtain ⟨fb, hfb⟩ : ∃ fb, fb = w.heap.size + 1 + 1 := ⟨_, rfl⟩
  rw [← hfb] at hO1 ⊢
  have hb1 : Below W2.heap.size W2 w1 := below_of_grown hg1 (Nat.le_refl _) (by simp)
  have hfb1 : W2.heap.size ≤ fb := by omega
  have hfb2 : fb < w1.heap.size := by rcases hO1.some_ (k := 0) (by omega) with ⟨g9, h9, _, h8⟩; injection h9 with h9; injection h9 with h9; omega
  have FAR := Lib.hid hO1; have B1 := Lib.hid hb1
  have hlow : w.heap.size + 2 ≤ W2.heap.size := by omega
  have hs1z := hb1.size
  clear hW2 hfb hown1 hg1 hO1 hb1 hsz hW2s hWH
  replace a0 := cell_keep a0 ga B1.out; replace a1 := cell_keep a1 ga B1.out; replace a2 := cell_keep a2 ga B1.out; replace l0 := cell_keep l0 gl B1.out; replace l1 := cell_keep l1 gl B1.out
  replace ga := lt_keep ga B1.out; replace gl := lt_keep gl B1.out
  go_loopw [20] (fun i wr => ∃ k : Nat, k ≤ N ∧ i = .int .i64 k ∧ OwnI 3 wr w.heap.size (some ⟨fb, 0, none⟩) N N (List.replicate k (-1) ++ List.replicate (N - k) 0) ∧ w1.grownBy wr (some fb)) (fun i _ => N - (intOf i).toNat)
  case atStart => exact ⟨0, by omega, rfl, by simpa using FAR.out, grown_refl _ _⟩
  case round =>
    obtain ⟨k, hk, rfl, hown, hgw⟩ := hrel
    by_cases hlt : k < N
    · have hx : (List.replicate k (-1 : Int) ++ List.replicate (N - k) 0)[k]? = some 0 := by
        rw [List.getElem?_append_right (by simp), List.length_replicate, Nat.sub_self, List.getElem?_replicate, if_pos (by omega)]
      have c0 := hown.cell hx
      have f0 := hown.frozen k
      have hi0 : (0 : Int) ≤ (k : Int) := by omega
      have hi1 : (k : Int) < (N : Int) := by omega
      obtain ⟨o1, g1⟩ := hown.stored k (-1)
      rw [minus_setN hlt] at o1
      have O1 := Lib.hid o1; have G1 := Lib.hid (grown_next hgw g1)
      clear o1 g1 hgw hown hx
      go_wp2
      go_roundw
      case rel => exact ⟨k + 1, by omega, by go_num, O1.out, G1.out⟩
      case measure => simp [intOf]; omega
    · obtain rfl : N = k := by omega
      have hown2 : OwnI 3 wr w.heap.size (some ⟨fb, 0, none⟩) N N (List.replicate N (-1)) := by simpa using hown
      have HBW := Lib.hid (B.out.trans ((B1.out.trans (below_of_grown hgw (by omega) (fun g h => by injection h with h; omega))).mono B.out.size))
      have hszw := hgw.size
      replace a0 := hgw.cell a0 (by simp; omega); replace a1 := hgw.cell a1 (by simp; omega); replace a2 := hgw.cell a2 (by simp; omega); replace l0 := hgw.cell l0 (by simp; omega); replace l1 := hgw.cell l1 (by simp; omega)
      have OW := Lib.hid hown2
      replace ga : w.heap.size < wr.heap.size := by omega
      replace gl : w.heap.size + 1 < wr.heap.size := by omega
      have hfbr : fb < wr.heap.size := by omega
      have hf2 : w.heap.size + 2 ≤ fb := by omega
      clear hgw hown hown2 FAR B1 B hk hlt hfb1 hfb2 hlow hs1z hszw R
      go_wp2_with fail
      refine (boCells_any W H A n c xs _ (ha.keep HBW.out) HN.out).mono ?_
      rintro e ws ⟨A1, n1, c1, rfl, hst, hb⟩
      replace a0 := cell_keep a0 ga hb; replace a1 := cell_keep a1 ga hb; replace a2 := cell_keep a2 ga hb; replace l0 := cell_keep l0 gl hb; replace l1 := cell_keep l1 gl hb; replace ga := lt_keep ga hb; replace gl := lt_keep gl hb
      replace OW := Lib.hid (OW.out.keep hb)
      have hfbs := lt_keep hfbr hb
      have hA1 : Hid (0 < n1 → ∃ g, A1 = some ⟨g, 0, none⟩ ∧ wr.heap.size ≤ g) := Lib.hid (fun h => by obtain ⟨g, h1, h2, _⟩ := hst.some_ h; exact ⟨g, h1, h2⟩)
      replace HBW := Lib.hid (below_next HBW.out hb)
      have hBs := HBW.out.size
      have ST := Lib.hid hst.rd
      have SL := Lib.hid hst.len
      have n8 : n1 ≤ 64 := by have := cellsL_len64 (xs := xs) HN.out; have := hst.len; omega
      clear hst hb
      go_wp2
      go_loopw [30] (fun i wq => ∃ k : Nat, k ≤ n1 ∧ i = .int .i64 k ∧ OwnI 3 wq w.heap.size (some ⟨fb, 0, none⟩) N N (twoTo W H xs a b k) ∧ ws.grownBy wq (some fb)) (fun i _ => n1 - (intOf i).toNat)
      case atStart => exact ⟨0, by omega, rfl, by rw [(two_ok HF.out 0).eq]; exact OW.out, grown_refl _ _⟩
      case round =>
        clear OW
        obtain ⟨k, hk, rfl, hown, hgw⟩ := hrel
        rename_i w0
        have hsq := hgw.size
        have hBQ : Below w.heap.size w wr := HBW.out.trans (below_of_grown hgw hBs (fun g h => by injection h with h; omega))
        have HBQ := Lib.hid hBQ
        by_cases hlt : k < n1
        · obtain ⟨g1, rfl, hg1l⟩ := hA1.out (by omega)
          obtain ⟨bb, oo, x, e1, hg1, hx, x0⟩ := ST.out.at_ hlt
          obtain ⟨rfl, rfl⟩ : bb = g1 ∧ oo = 0 := by simp at e1; exact ⟨e1.1.symm, e1.2.symm⟩
          rw [Nat.zero_add] at x0
          have hin := cellsL_mem.1 (List.mem_of_getElem? hx)
          have hxr := (hasB_iff.1 hin).1
          rw [HF.out.wh] at hxr
          obtain ⟨xn, rfl⟩ : ∃ xn : Nat, x = (xn : Int) := ⟨x.toNat, by omega⟩
          have hxn : xn < N := by omega
          have hx0 : (0 : Int) ≤ (xn : Int) := by omega
          have hx1 : (xn : Int) < (N : Int) := by omega
          have HX := Lib.hid hx; have HXI := Lib.hid hin
          replace x0 := hgw.cell x0 (by simp; omega)
          have b0 := hgw.cell a0 (by simp; omega); have b1 := hgw.cell a1 (by simp; omega); have b2 := hgw.cell a2 (by simp; omega); have m0 := hgw.cell l0 (by simp; omega); have m1 := hgw.cell l1 (by simp; omega)
          have hlen := (two_ok HF.out k).len
          obtain ⟨v, hv⟩ : ∃ v, (twoTo W H xs a b k)[xn]? = some v := ⟨_, List.getElem?_eq_getElem (by omega)⟩
          have v0 := hown.cell hv
          have hvd : (twoTo W H xs a b k).getD xn (-1) = v := by rw [List.getD_eq_getElem?_getD, hv]; rfl
          have HVD := Lib.hid hvd; have HOWN := Lib.hid hown; have HGW := Lib.hid hgw
          have HNEXT := Lib.hid (twoTo_next (a := a) (b := b) hx)
          clear hx hin hxr hgw hBQ hown hlen hv hvd e1
          by_cases hv0 : 0 ≤ v
          · have eN : Hid (twoTo W H xs a b (k + 1) = twoTo W H xs a b k) := Lib.hid (by rw [HNEXT.out, twoStep, Int.toNat_natCast, HVD.out, if_pos hv0])
            clear HNEXT
            go_wp2
            go_roundw
            case rel => exact ⟨k + 1, by omega, by go_num, by rw [eN.out]; exact HOWN.out, HGW.out⟩
            case measure => simp [intOf]; omega
          · have eN : Hid (twoTo W H xs a b (k + 1) = layK (distL W H xs a b (xn : Int)) (twoTo W H xs a b k) N) := Lib.hid (by rw [HNEXT.out, twoStep, Int.toNat_natCast, HVD.out, if_neg hv0, show (W * H).toNat = N by have := HF.out.wh; omega])
            clear HNEXT
            go_wp2_with fail
            refine (faFrom_any W H A n c xs a b xn N _ (ha.keep HBQ.out) HF.out.g HF.out.wh hxn).mono ?_
            rintro e wv ⟨g, rfl, own, hb⟩
            have eD : farL (leapsL W H xs a b) N (xn : Int) = distL W H xs a b (xn : Int) := by rw [distL, show (W * H).toNat = N by have := HF.out.wh; omega]
            rw [eD] at own
            have hbd := Lib.hid (dist_bd HF.out HXI.out)
            obtain ⟨D, hD⟩ : ∃ D, D = distL W H xs a b (xn : Int) := ⟨_, rfl⟩
            rw [← hD] at own hbd eN
            have DLEN := Lib.hid own.len
            have hgl : wr.heap.size ≤ g := by obtain ⟨g9, h1, h3, h2⟩ := own.some_ (k := 0) (by omega); injection h1 with h1; injection h1 with h1; omega
            have hgf : g ≠ fb := by omega
            have hgv : g < wv.heap.size := by obtain ⟨g9, h1, _, h2⟩ := own.some_ (k := 0) (by omega); injection h1 with h1; injection h1 with h1; omega
            have FAR := Lib.hid own
            have OW := Lib.hid (HOWN.out.keep hb)
            have HGV := Lib.hid (grown_next HGW.out (grown_of_below hb (some fb)))
            obtain ⟨out0, hout0⟩ : ∃ o, o = twoTo W H xs a b k := ⟨_, rfl⟩
            rw [← hout0] at OW eN
            have ho := Lib.hid OW.out.len
            clear hb own eD hD HGW HOWN HVD hout0 x0 v0
            go_wp2
            go_loopw [44] (fun i wx => ∃ j : Nat, j ≤ N ∧ i = .int .i64 j ∧ OwnI 3 wx w.heap.size (some ⟨fb, 0, none⟩) N N (layK D out0 j) ∧ wv.grownBy wx (some fb)) (fun i _ => N - (intOf i).toNat)
            case atStart => exact ⟨0, by omega, rfl, OW.out, grown_refl _ _⟩
            case round =>
              clear OW
              obtain ⟨j, hj, rfl, hown, hgx⟩ := hrel
              have hsx := hgx.size
              by_cases hjl : j < N
              · obtain ⟨y, hy⟩ : ∃ y, D[j]? = some y := ⟨_, List.getElem?_eq_getElem (show j < D.length by have := DLEN.out; omega)⟩
                have y0 := hgx.cell (FAR.out.cell hy) (by simp; omega)
                have hyb := hbd.out y (List.mem_of_getElem? hy)
                have hyd : D.getD j (-1) = y := by rw [List.getD_eq_getElem?_getD, hy]; rfl
                have hj0 : (0 : Int) ≤ (j : Int) := by omega
                have hj1 : (j : Int) < (N : Int) := by omega
                have HGX := Lib.hid hgx
                by_cases hy0 : 0 ≤ y
                · obtain ⟨r, hr⟩ : ∃ r, r = y % 2 := ⟨_, rfl⟩
                  have hrt : Int.tmod y 2 = r := by rw [hr, Int.tmod_eq_emod_of_nonneg hy0]
                  have hl := layK_yes (D := D) (out := out0) (k := j) (by rw [hyd]; exact hy0)
                  rw [hyd, ← hr] at hl
                  obtain ⟨z, hz⟩ : ∃ z, (layK D out0 j)[j]? = some z := ⟨_, List.getElem?_eq_getElem (by rw [layK_len]; have := ho.out; omega)⟩
                  have c0 := hown.cell hz
                  have f0 := hown.frozen j
                  obtain ⟨o1, g1⟩ := hown.stored j r
                  rw [← hl] at o1
                  have O1 := Lib.hid o1; have G1 := Lib.hid (grown_next hgx g1)
                  have hr0 : 0 ≤ r ∧ r ≤ 1 := by omega
                  have hy1 : y ≤ 64 := hyb.2
                  clear o1 g1 hgx hown hy hyb hyd hl hz hr
                  go_wp2
                  go_roundw
                  case rel => exact ⟨j + 1, by omega, by go_num, O1.out, G1.out⟩
                  case measure => simp [intOf]; omega
                · have hl := layK_no (D := D) (out := out0) (k := j) (by rw [hyd]; exact hy0)
                  have O1 := Lib.hid hown
                  have HL := Lib.hid hl
                  clear hgx hown hy hyb hyd hl
                  go_wp2
                  go_roundw
                  case rel => exact ⟨j + 1, by omega, by go_num, by rw [HL.out]; exact O1.out, HGX.out⟩
                  case measure => simp [intOf]; omega
              · obtain rfl : j = N := by omega
                rw [← eN.out] at hown
                have OW2 := Lib.hid hown
                have G2 := Lib.hid (grown_next HGV.out hgx)
                clear hown hgx
                go_wp2
                go_roundw
                case rel => exact ⟨k + 1, by omega, by go_num, OW2.out, G2.out⟩
                case measure => simp [intOf]; omega
        · obtain rfl : k = n1 := by omega
          have eT : Hid (twoTo W H xs a b k = twoL W H xs a b) := Lib.hid (by rw [twoTo, List.take_of_length_le (by have := SL.out; omega)]; rfl)
          have b0 := hgw.cell a0 (by simp; omega); have b1 := hgw.cell a1 (by simp; omega); have b2 := hgw.cell a2 (by simp; omega); have m0 := hgw.cell l0 (by simp; omega); have m1 := hgw.cell l1 (by simp; omega)
          rw [eT.out] at hown
          have OWN := Lib.hid hown
          have hTL : ((twoL W H xs a b).length : Int) = W * H := by have := (two_parts HF.out).1; have := HF.out.wh; omega
          clear hgw hBQ hown
          go_wp2_with fail
          refine (paIs_any W H A n c xs a b (some ⟨fb, 0, none⟩) N N (twoL W H xs a b) _ (ha.keep HBQ.out) OWN.out.rd HF.out.g hTL).mono ?_
          rintro e wz ⟨rfl, hb⟩
          have OWZ := Lib.hid (OWN.out.keep hb)
          have HBZ := Lib.hid (below_next HBQ.out hb)
          clear hb hTL
          go_wp2
          go_ret2
          exact ⟨fb, rfl, OWZ.out, HBZ.out⟩
end Go.Proofs.YtomfgjbicpeggaaGreatDoor

namespace Go.Proofs.YtomfgjbicpeggaaGreatDoor
open Go.RowKit Go.Shelf
attribute [local go_sem] Oper.semAt_some

set_option maxRecDepth 100000 in
set_option maxHeartbeats 1000000 in
/-- 'each' yields the cells of a set, least first, so long as it is told to go on; it may be told to stop. -/
theorem each_inS (n l s : Nat) (hs : s < 18446744073709551616) (J Jx : List Int → World → Prop) (W : World) (hT : ∀ pre w, J pre w → Tab64 w)
    (hY : ∀ (pre : List Int) (x : Int) (rest : List Int) (w : World), bitsL s = pre ++ x :: rest → J pre w → YieldAt Fence.wide (n - 1) Tryz.prog l #[.int .i64 x] w fun e w' => (e = .returned (.bool true) ∧ J (pre ++ [x]) w') ∨ (e = .returned (.bool false) ∧ Jx (pre ++ [x]) w'))
    (h0 : J [] W) :
    CallsIn Fence.wide n Tryz.prog 31 #[.int .u64 (s : Int), .func (.yield l) #[] #[]] W fun e w' => (∃ v, e = .returned v) ∧ (J (bitsL s) w' ∨ ∃ pre, Jx pre w') := by
  refine callsIn_of_wp Tryz.func31 rfl trivial ?_ rfl
  simp only [Tryz.ntmps31, List.size_toArray, List.length_cons, List.length_nil, Nat.reduceAdd, Nat.reduceSub, Array.replicate_succ, Array.replicate_zero, List.push_toArray, List.append_toArray, List.nil_append, List.cons_append]
  gi_wp2
  gi_loopw [0] (fun v wr => ∃ (r : Nat) (pre : List Int), v = .int .u64 (r : Int) ∧ r < 18446744073709551616 ∧ bitsL s = pre ++ bitsL r ∧ J pre wr) (fun v _ => (intOf v).toNat)
  case atStart => exact ⟨s, [], rfl, hs, rfl, h0⟩
  case round =>
    obtain ⟨r, pre, rfl, hr, hsp, hJ⟩ := hrel
    by_cases hz : r = 0
    · subst hz
      have HF := Lib.hid (show bitsL s = pre by rw [hsp, bitsL_zero, List.append_nil])
      clear hsp
      have h00 : ((((0 : Nat) : Int)) != 0) = false := rfl
      gi_wp2
      refine ⟨trivial, ?_⟩
      gi_wp2
      refine ⟨fun _ h => (by cases h), ?_⟩
      gi_wp2
      go_end0
      exact ⟨⟨_, rfl⟩, .inl (by rw [HF.out]; exact hJ)⟩
    · have hz0 : ((r : Int) == 0) = false := by simp; omega
      have hz1 : ¬ ((r : Int) = 0) := by omega
      obtain ⟨hk, hb, hlow⟩ := ctz_facts hz hr
      have hst := bitsL_step hz hr
      have hL1 := least_any r hr wr (hT pre wr hJ)
      have hclt := clr_lt hk hb
      generalize hkd : Lib.ctz 64 r = k at hk hb hlow hst hL1 hclt
      have HK := Lib.hid hkd
      have HN := Lib.hid (show bitsL s = (pre ++ [(k : Int)]) ++ bitsL (clr r k) by rw [hsp, hst]; simp)
      obtain ⟨fn, tmps, assign, body, hy, hR⟩ := hY pre (k : Int) (bitsL (clr r k)) wr (by rw [hsp, hst]) hJ
      have HC := Lib.hid hclt
      have HR := Lib.hid (Nat.lt_of_lt_of_le hclt (Nat.le_of_lt hr))
      clear hsp hst hb hlow hkd hclt
      gi_wp2
      refine ⟨trivial, (fun h => by cases h), (callsIn_wide.2 hL1).mono ?_⟩
      rintro e w' ⟨rfl, rfl⟩
      clear hL1
      gi_wp2
      refine ⟨(fun h => by cases h), hR.mono ?_⟩
      rintro e w' (⟨rfl, hJ2⟩ | ⟨rfl, hJx⟩)
      rotate_left
      · clear hR hy
        gi_wp2
        go_end0
        exact ⟨⟨_, rfl⟩, .inr ⟨_, hJx⟩⟩
      clear hR hy
      have hL2 := least_any r hr w' (hT _ w' hJ2)
      have hW2 := without_any r k hr hk w'
      rw [HK.out] at hL2
      gi_wp2
      refine ⟨trivial, (fun h => by cases h), (callsIn_wide.2 hL2).mono ?_⟩
      rintro e w'' ⟨rfl, rfl⟩
      clear hL2
      gi_wp2
      refine ⟨trivial, (fun h => by cases h), (callsIn_wide.2 hW2).mono ?_⟩
      rintro e w'' ⟨rfl, rfl⟩
      clear hW2
      gi_wp2
      go_roundw
      case rel => exact ⟨clr r k, pre ++ [(k : Int)], rfl, HR.out, HN.out, hJ2⟩
      case measure => have := HC.out; simp [intOf]; omega
/-- What an iterator with a bound receiver promises that may be told to stop. -/
def HandsS (P : Program) (n gf : Nat) (sv : Value) (xs : List Int) (T : World → Prop) : Prop :=
  ∀ (l : Nat) (J Jx : List Int → World → Prop) (W : World), (∀ pre w, J pre w → T w) →
    (∀ (pre : List Int) (x : Int) (rest : List Int) (w : World), xs = pre ++ x :: rest → J pre w → YieldAt Fence.wide (n - 1) P l #[.int .i64 x] w fun e w' => (e = .returned (.bool true) ∧ J (pre ++ [x]) w') ∨ (e = .returned (.bool false) ∧ Jx (pre ++ [x]) w')) →
    J [] W → CallsIn Fence.wide n P gf #[sv, .func (.yield l) #[] #[]] W fun e w' => (∃ v, e = .returned v) ∧ (J xs w' ∨ ∃ pre, Jx pre w')

theorem each_handsS (n s : Nat) (hs : s < 18446744073709551616) : HandsS Tryz.prog n 31 (.int .u64 (s : Int)) (bitsL s) Tab64 :=
  fun l J Jx W hT hY h0 => each_inS n l s hs J Jx W hT hY h0

theorem wpIn_handsS {P : Program} {n : Nat} {g : Operand} {p : Tmp} {assign body : Code} {Q : Exit → Act → World → Prop} {a : Act} {w : World} {gf : Nat} {sv : Value}
    (hg : a.eval g = .func (.func gf) #[sv] #[]) (eg : ∀ args w, (callFunc gf args).run P w = .ok (.enter gf args) w)
    {xs : List Int} {T : World → Prop} (hit : HandsS P (n - 1) gf sv xs T)
    (I : List Int → World → Prop) (Ix : Code → List Int → World → Prop) (hT : ∀ pre w, I pre w → T w) (hI : OwnFrom w.heap.size I) (hIx : ∀ c, OwnFrom w.heap.size (Ix c)) (h0 : I [] w) (a₁ : Int → Act)
    (hassign : ∀ (l : Nat) (x : Int) (W : World) (K : Act → World → Prop), K (a₁ x) W →
      assign.wpIn (Fence.wide.inRound l) (n - 1 - 1) P (Exit.then K (fun _ _ _ => False)) { tmps := ((#[p] : Array Tmp).zip #[Value.int .i64 x]).foldl (fun t (p, v) => t.setIfInBounds p v) a.tmps, defers := [] } W)
    (hbody : ∀ (l : Nat) (pre : List Int) (x : Int) (rest : List Int) (W : World), w.heap.size ≤ l → xs = pre ++ x :: rest → I pre W →
      body.wpIn (Fence.wide.inRound l) (n - 1 - 1) P (ownPostG w.heap.size (fun _ _ => True) I Ix (pre ++ [x]) W) (a₁ x) W)
    (hdone : ∀ (D : Nat) (W : World), w.heap.size ≤ D → I xs W → W.heap[D]? = some (.deferred (some [])) → Q .normal { a with defers := { target := .collected D, args := #[] } :: a.defers } W)
    (hstop : ∀ (D : Nat) (c : Code) (pre : List Int) (W : World), w.heap.size ≤ D → Ix c pre W → W.heap[D]? = some (.deferred (some [])) → c.wpIn Fence.wide n P Q { a with defers := { target := .collected D, args := #[] } :: a.defers } W) :
    (Code.rangeFunc g #[p] assign body).wpIn Fence.wide n P Q a w := by
  refine wpIn_rangeFunc ?_
  intro fn _
  obtain ⟨rec, hrec⟩ : ∃ rec : LoopState → Option Code → Loop, rec = fun st pe => { state := st, pending := pe, fn, tmps := a.tmps, params := #[p], assign, body, defers := w.heap.size } := ⟨_, rfl⟩
  obtain ⟨W1, hW1⟩ : ∃ W1, W1 = (w.alloc (.deferred (some []))).alloc (.loop (rec .ready none)) := ⟨_, rfl⟩
  have hL1 : W1.heap[w.heap.size + 1]? = some (.loop (rec .ready none)) := by
    rw [hW1]
    have h := World.alloc_heap_new (w.alloc (.deferred (some []))) (.loop (rec .ready none))
    rw [World.size_alloc] at h
    exact h
  have hK1 : W1.heap[w.heap.size]? = some (.deferred (some [])) := by
    rw [hW1]
    exact (Below.heap_alloc _ _ _ (by simp)).trans (World.alloc_heap_new w _)
  have hI1 : I [] W1 := by rw [hW1]; exact hI.alloc _ (hI.alloc _ h0)
  refine ⟨w.heap.size + 1, [{ target := .collected w.heap.size, args := #[] }], W1, { target := .fn (.func gf) #[], args := #[sv, .func (.yield (w.heap.size + 1)) #[] #[]] }, W1, gf,
    #[sv, .func (.yield (w.heap.size + 1)) #[] #[]], W1, ?_, ?_, fun _ _ => trivial, ?_, (fun h => by cases h), ?_⟩
  · rw [hW1, hrec]; exact run_enterLoop_outer fn a.tmps #[p] assign body
  · simp only [resolve, hg]
    simp [go_sem]
  · simp [invoke, go_sem, eg]
  · refine (hit (w.heap.size + 1) (fun pre W => I pre W ∧ W.heap[w.heap.size + 1]? = some (.loop (rec .ready none)) ∧ W.heap[w.heap.size]? = some (.deferred (some [])))
      (fun pre W => ∃ c, Ix c pre W ∧ W.heap[w.heap.size + 1]? = some (.loop (rec .done (some c))) ∧ W.heap[w.heap.size]? = some (.deferred (some []))) W1
      (fun pre W h => hT pre W h.1) ?_ ⟨hI1, hL1, hK1⟩).mono ?_
    · rintro pre x rest W hsp ⟨hi, hl, hk⟩
      have hlt := (Array.getElem?_eq_some_iff.1 hl).1
      have hy := run_yield (P := P) (args := #[.int .i64 x]) hl (by rw [hrec]; rfl)
      have hbg := run_beginRound (P := P) hl (by rw [hrec])
      obtain ⟨busy, hbusy⟩ : ∃ busy : Loop, busy = { rec .ready none with state := .busy } := ⟨_, rfl⟩
      rw [← hbusy] at hbg
      have hl2 : (W.putObj (w.heap.size + 1) (.loop busy)).heap[w.heap.size + 1]? = some (.loop busy) := World.putObj_heap_same hlt
      have hk2 : (W.putObj (w.heap.size + 1) (.loop busy)).heap[w.heap.size]? = some (.deferred (some [])) := (World.putObj_heap_other (by omega)).trans hk
      rw [hrec] at hy
      refine ⟨fn, _, assign, body, hy, roundIn_of_wpIn trivial (hassign _ x W _ ⟨_, hbg, ?_⟩)⟩
      refine wpIn_mono (hbody (w.heap.size + 1) pre x rest _ (by omega) hsp (hI.putObj _ hi (by omega) hl rfl)) ?_
      have fin : ∀ (jump : Option Code) (W3 : World), KeepsFrom w.heap.size (W.putObj (w.heap.size + 1) (.loop busy)) W3 →
          (Instr.endRound (w.heap.size + 1) jump).run P W3 = .ok (.bool jump.isNone) (W3.putObj (w.heap.size + 1) (.loop (rec (if jump.isNone then .ready else .done) jump))) ∧
          W3.heap[w.heap.size + 1]? = some (.loop busy) ∧
          (W3.putObj (w.heap.size + 1) (.loop (rec (if jump.isNone then .ready else .done) jump))).heap[w.heap.size + 1]? = some (.loop (rec (if jump.isNone then .ready else .done) jump)) ∧
          (W3.putObj (w.heap.size + 1) (.loop (rec (if jump.isNone then .ready else .done) jump))).heap[w.heap.size]? = some (.deferred (some [])) := fun jump W3 hk3 => by
        have hl3 := hk3.same _ _ (by omega) hl2 rfl
        have hend := run_endRound (P := P) jump hl3
        have hre : ({ busy with state := if jump.isNone then .ready else .done, pending := jump } : Loop) = rec (if jump.isNone then .ready else .done) jump := by rw [hbusy, hrec]
        rw [hre] at hend
        exact ⟨hend, hl3, World.putObj_heap_same (Array.getElem?_eq_some_iff.1 hl3).1, (World.putObj_heap_other (by omega)).trans (hk3.same _ _ (Nat.le_refl _) hk2 rfl)⟩
      intro e a3 W3 hp
      cases e with
      | normal =>
        obtain ⟨hk3, _, hi3⟩ := hp
        obtain ⟨hr, hl3, hl4, hk4⟩ := fin none W3 hk3
        exact ⟨_, _, hr, .inl ⟨rfl, hI.putObj _ hi3 (by omega) hl3 rfl, hl4, hk4⟩⟩
      | ret =>
        obtain ⟨hk3, hi3⟩ := hp
        obtain ⟨hr, hl3, hl4, hk4⟩ := fin (some .ret) W3 hk3
        exact ⟨_, _, hr, .inr ⟨rfl, .ret, (hIx _).putObj _ hi3 (by omega) hl3 rfl, hl4, hk4⟩⟩
      | exit id =>
        obtain ⟨hk3, hi3⟩ := hp
        obtain ⟨hr, hl3, hl4, hk4⟩ := fin (some (.exit id)) W3 hk3
        exact ⟨_, _, hr, .inr ⟨rfl, .exit id, (hIx _).putObj _ hi3 (by omega) hl3 rfl, hl4, hk4⟩⟩
      | goto t =>
        obtain ⟨hk3, hi3⟩ := hp
        obtain ⟨hr, hl3, hl4, hk4⟩ := fin (some (.goto t)) W3 hk3
        exact ⟨_, _, hr, .inr ⟨rfl, .goto t, (hIx _).putObj _ hi3 (by omega) hl3 rfl, hl4, hk4⟩⟩
      | panic ch => exact hp.elim
      | outgrown => exact hp.elim
    · rintro e W2 ⟨⟨v, rfl⟩, (⟨hi, hl, hk⟩ | ⟨pre, c, hi, hl, hk⟩)⟩
      · have hend := run_endLoop (P := P) hl (by rw [hrec]; simp)
        exact ⟨none, _, by rw [hrec] at hend; exact hend, hdone _ _ (Nat.le_refl _) (hI.putObj _ hi (by omega) hl rfl) ((World.putObj_heap_other (by omega)).trans hk)⟩
      · have hend := run_endLoop (P := P) hl (by rw [hrec]; simp)
        exact ⟨some c, _, by rw [hrec] at hend; exact hend, hstop _ c pre _ (Nat.le_refl _) ((hIx c).putObj _ hi (by omega) hl rfl) ((World.putObj_heap_other (by omega)).trans hk)⟩
end Go.Proofs.YtomfgjbicpeggaaGreatDoor

namespace Go.Proofs.YtomfgjbicpeggaaGreatDoor
open Go.RowKit Go.Shelf
attribute [local go_sem] Oper.semAt_some

theorem wpIn_handsSQ {P : Program} {n : Nat} {g : Operand} {p q : Tmp} {assign body : Code} {Q : Exit → Act → World → Prop} {a : Act} {w : World} {gf : Nat} {sv : Value}
    (hg : a.eval g = .func (.func gf) #[sv] #[]) (eg : ∀ args w, (callFunc gf args).run P w = .ok (.enter gf args) w)
    {xs : List Int} {T : World → Prop} (hit : HandsS P (n - 1) gf sv xs T)
    (I : List Int → World → Prop) (Ix : Code → List Int → World → Prop) (hT : ∀ pre w, I pre w → T w) (hI : OwnFrom w.heap.size I) (hIx : ∀ c, OwnFrom w.heap.size (Ix c)) (h0 : I [] w)
    (hassign : ∀ (l : Nat) (x : Int) (W : World) (K : Act → World → Prop), K { tmps := (a.tmps.setIfInBounds p (.int .i64 x)).setIfInBounds q (.int .i64 x), defers := [] } W →
      assign.wpIn (Fence.wide.inRound l) (n - 1 - 1) P (Exit.then K (fun _ _ _ => False)) { tmps := ((#[p] : Array Tmp).zip #[Value.int .i64 x]).foldl (fun t (p, v) => t.setIfInBounds p v) a.tmps, defers := [] } W)
    (hbody : ∀ (l : Nat) (pre : List Int) (x : Int) (rest : List Int) (W : World), w.heap.size ≤ l → xs = pre ++ x :: rest → I pre W →
      body.wpIn (Fence.wide.inRound l) (n - 1 - 1) P (ownPostG w.heap.size (fun _ _ => True) I Ix (pre ++ [x]) W) { tmps := (a.tmps.setIfInBounds p (.int .i64 x)).setIfInBounds q (.int .i64 x), defers := [] } W)
    (hdone : ∀ (D : Nat) (W : World), w.heap.size ≤ D → I xs W → W.heap[D]? = some (.deferred (some [])) → Q .normal { a with defers := { target := .collected D, args := #[] } :: a.defers } W)
    (hstop : ∀ (D : Nat) (c : Code) (pre : List Int) (W : World), w.heap.size ≤ D → Ix c pre W → W.heap[D]? = some (.deferred (some [])) → c.wpIn Fence.wide n P Q { a with defers := { target := .collected D, args := #[] } :: a.defers } W) :
    (Code.rangeFunc g #[p] assign body).wpIn Fence.wide n P Q a w :=
  wpIn_handsS hg eg hit I Ix hT hI hIx h0 (fun x => { tmps := (a.tmps.setIfInBounds p (.int .i64 x)).setIfInBounds q (.int .i64 x), defers := [] }) hassign hbody hdone hstop
theorem results_cell_one {P : Program} {fn : Func} {p : Tmp} {ty : TypeId} (h : fn.results = #[.cell p ty]) (tmps : Array Value) (w : World) (a : Addr) (v : Value)
    (hp : tmps.getD p undef = .pointer (some a)) (hl : (loadVar ty a).run P w = .ok v w) : (results fn tmps).run P w = .ok v w := by
  have hp' : tmps[p]?.getD undef = .pointer (some a) := by simpa using hp
  simp [results, h, hp', asAddr, hl]

/-- No cell of a set is near to another one, by the ground's words. -/
def freeB (G : List Nat) (s : Nat) : Bool := (bitsL s).all fun x => (G.getD (1 + x.toNat) 0 &&& s) == 0

theorem load_bool {W : World} {p : Addr} {b : Bool} (h : W.cell? p = some (.bool b)) : (loadVar 4 p).run Tryz.prog W = .ok (.bool b) W := by
  have ha := Tryz.isAgg4
  simp [loadVar, Sem.run_bind, ha, go_sem, h]

def StopF (G : List Nat) (s : Nat) (c : Code) (_ : List Int) : Prop := c = .ret ∧ freeB G s = false
/-- One block in the midst of a range: what it holds, and a word on the cells that were handed over. -/
def MidC {α : Type} (W3 : World) (g : Nat) (t : TypeId) (C : α → Array Value) (p : α → Prop) (x : α) (W' : World) : Prop :=
  W3.grownBy W' (some g) ∧ W'.heap[g]? = some (.cells (C x) t (0, 0)) ∧ p x
theorem midC_own {α : Type} {W3 : World} {g : Nat} {t : TypeId} {C : α → Array Value} {p : α → Prop} (hg : g < W3.heap.size) : OwnFrom W3.heap.size (MidC W3 g t C p) := by
  intro s W W' row hs hgr hr
  have hne : some g ≠ row := fun e => by have := (hr g e.symm).1; omega
  refine ⟨⟨hgr.os.trans hs.1.os, hgr.tape.trans hs.1.tape, hgr.output.trans hs.1.output, Nat.le_trans hs.1.size hgr.size, fun k hk hkg => ?_⟩, ?_, hs.2.2⟩
  · refine (hgr.block k (Nat.lt_of_lt_of_le hk hs.1.size) (fun e => ?_)).trans (hs.1.block k hk hkg)
    have := (hr k e.symm).1
    omega
  · exact (hgr.block g (Array.getElem?_eq_some_iff.1 hs.2.1).1 hne).trans hs.2.1

end Go.Proofs.YtomfgjbicpeggaaGreatDoor

namespace Go.Proofs.YtomfgjbicpeggaaGreatDoor
open Go.RowKit

/-- The row in the midst of its filling. -/
def rowR (v : Int) (n N : Nat) : List Value := List.replicate n (.int .i64 v) ++ List.replicate (N - n) (.int .i64 0)
theorem rowR_len (v : Int) {n N : Nat} (h : n ≤ N) : (rowR v n N).length = N := by simp [rowR]; omega
theorem rowR_full (v : Int) (N : Nat) : rowR v N N = (List.replicate N v).map (Value.int .i64) := by simp [rowR]
theorem rowR_copy (v : Int) {n k N : Nat} : (rowR v n N).take n ++ (List.replicate k (.int .i64 v) ++ (rowR v n N).drop (n + k)) = rowR v (n + k) N := by
  unfold rowR
  rw [List.take_append, List.drop_append]
  simp
  rw [← List.append_assoc, List.replicate_append_replicate]
  congr 2; omega
theorem rowR_at (v : Int) {n N j : Nat} (h : j < n) : (rowR v n N)[j]? = some (.int .i64 v) := by
  unfold rowR; rw [List.getElem?_append_left (by simpa using h)]; simp [h]

theorem row_of_made {w : World} {base g N : Nat} {e : TypeId} (v : Int) (h : w.ownsRow base e 1 (.slice (some ⟨g, 0, none⟩) N N) N (madeCells (Value.cells (.int .i64 0)) (N * 1)).toList) :
    w.heap[g]? = some (.cells (rowR v 0 N).toArray e (0, 0)) := by
  rcases h.2 with ⟨hv, _⟩ | ⟨g', cap, cur, hv, _, hg, _, _, hs, ht⟩
  · cases hv
  · injection hv with h1 h2 h3
    injection h1 with h1
    injection h1 with h1
    subst h1; subst h3
    have e1 : (madeCells (Value.cells (.int .i64 0)) (N * 1)).toList = List.replicate N (.int .i64 0) := by rw [Nat.mul_one]; exact toList_madeCells_one (.int .i64 0) N
    rw [e1, List.take_of_length_le (by simp [hs])] at ht
    rw [hg]
    congr 2
    rw [← Array.toList_inj, ht]
    simp [rowR]
theorem own_of_row {w : World} {lo g N : Nat} {e : TypeId} {L : List Int} (hl : L.length = N) (hlo : lo ≤ g) (hN : N ≤ maxLen) (h : w.heap[g]? = some (.cells (L.map (Value.int .i64)).toArray e (0, 0))) :
    OwnI e w lo (some ⟨g, 0, none⟩) N N L :=
  ⟨by simp [hl], .inr ⟨g, N, _, rfl, hlo, h, Nat.le_refl _, hN, by simp [hl], by simp [hl, List.take_of_length_le]⟩⟩

theorem heap_setRowF {W : World} {g : Nat} {cs c' : Array Value} {t : TypeId} (h : W.heap[g]? = some (.cells cs t (0, 0))) : (W.setRow g c').heap[g]? = some (.cells c' t (0, 0)) := by
  simp [World.setRow, Array.getElem?_modify, h]

theorem wpList_copy_rowR {P : Program} {w : World} {ops : Array Oper} {rest : List Oper} {o : Oper} {a : Act} {Q : Exit → Act → World → Prop} (hgd : o.guard = none) (d s : Operand) (T : TypeId)
    (ho : o.op = .call { callee := .builtin .copy, args := #[d, s], argTypes := #[T, T] }) (elem : TypeId) (hu : P.underlying T = some (.slice elem)) (hsz : (P.info? elem).map (·.size) = some 1)
    (v : Int) (g n k N dLen dCap : Nat) (ad : Addr) (sLen sCap : Nat) (hd : a.eval d = .slice (some ⟨g, n, none⟩) dLen dCap) (hs : a.eval s = .slice (some ad) sLen sCap) (t : TypeId)
    (hg : w.heap[g]? = some (.cells (rowR v n N).toArray t (0, 0))) (hk : k = Nat.min sLen dLen) (hsrc : ∀ j, j < k → w.cell? (ad.add j) = some (.int .i64 v)) (hfit : n + k ≤ N) (lo : Nat) (w0 : World) (hb : Below lo w0 w) (hlo : lo ≤ g)
    (h : ∀ w', w'.heap[g]? = some (.cells (rowR v (n + k) N).toArray t (0, 0)) → Below lo w0 w' → wpList P ops Q rest (a.put o.dst (goInt k)) w') : wpList P ops Q (o :: rest) a w := by
  have hl : (List.replicate k (Value.int .i64 v)).length = k := by simp
  refine wpList_copy_own hgd d s T T ho elem hu hsz g n dLen dCap ad sLen sCap hd hs _ t hg (List.replicate k (.int .i64 v)) (by rw [hl, hk]) (fun j u hj => ?_) (by rw [hl]; simp [rowR_len v (show n ≤ N by omega)]; omega) (fun u hu => by rw [List.eq_of_mem_replicate hu]; rfl) ?_
  · have hjk : j < k := by have := (List.getElem?_eq_some_iff.1 hj).1; simpa using this
    rw [List.getElem?_replicate, if_pos hjk] at hj
    injection hj with hj
    rw [← hj]; exact hsrc j hjk
  · rw [hl]
    refine h _ ?_ (below_setRow hb hlo _)
    have h1 := heap_setRowF (c' := ((rowR v n N).toArray.toList.take n ++ (List.replicate k (Value.int .i64 v) ++ (rowR v n N).toArray.toList.drop (n + k))).toArray) hg
    rw [show (rowR v n N).toArray.toList.take n ++ (List.replicate k (Value.int .i64 v) ++ (rowR v n N).toArray.toList.drop (n + k)) = rowR v (n + k) N from rowR_copy v] at h1 ⊢
    exact h1

theorem step_copy_rowR {P : Program} {w : World} {ops : Array Oper} {o : Oper} {a : Act} {K : Act → World → Prop} {Q : Exit → Act → World → Prop} {E0 : Prop} (hgd : o.guard = none) (d s : Operand) (T : TypeId)
    (ho : o.op = .call { callee := .builtin .copy, args := #[d, s], argTypes := #[T, T] }) (elem : TypeId) (hu : P.underlying T = some (.slice elem)) (hsz : (P.info? elem).map (·.size) = some 1)
    (v : Int) (g n k N dLen dCap : Nat) (ad : Addr) (sLen sCap : Nat) (hd : a.eval d = .slice (some ⟨g, n, none⟩) dLen dCap) (hs : a.eval s = .slice (some ad) sLen sCap) (t : TypeId)
    (hg : w.heap[g]? = some (.cells (rowR v n N).toArray t (0, 0))) (hk : k = Nat.min sLen dLen) (hsrc : ∀ j, j < k → w.cell? (ad.add j) = some (.int .i64 v)) (hfit : n + k ≤ N) (lo : Nat) (w0 : World) (hb : Below lo w0 w) (hlo : lo ≤ g)
    (h : ∀ w', w'.heap[g]? = some (.cells (rowR v (n + k) N).toArray t (0, 0)) → Below lo w0 w' → K (a.put o.dst (goInt k)) w') : if Region.wanted o (yielded ops a.tmps) = true then Oper.wp P o a w K Q else E0 := by
  have hl : (List.replicate k (Value.int .i64 v)).length = k := by simp
  have hw : Region.wanted o (yielded ops a.tmps) = true := by simp [Region.wanted, hgd]
  rw [if_pos hw]
  have hrun := run_copy_row (P := P) w T T o.type elem g n dLen dCap ad sLen sCap (rowR v n N).toArray t (List.replicate k (.int .i64 v)) hu hsz hg (by rw [hl, hk]) (fun j u hj => by
    have hjk : j < k := by have := (List.getElem?_eq_some_iff.1 hj).1; simpa using this
    rw [List.getElem?_replicate, if_pos hjk] at hj
    injection hj with hj
    rw [← hj]; exact hsrc j hjk) (by rw [hl]; simp [rowR_len v (show n ≤ N by omega)]; omega) (fun u hu => by rw [List.eq_of_mem_replicate hu]; rfl)
  unfold Oper.wp
  simp only [execOp, ho, resolve, invoke, builtin, Sem.run_bind, Sem.run_pure, Result.andThen_ok, List.map_toArray, List.map_cons, List.map_nil, hd, hs, hrun]
  rw [hl, List.append_assoc]
  rw [show (rowR v n N).toArray.toList.take n ++ (List.replicate k (Value.int .i64 v) ++ (rowR v n N).toArray.toList.drop (n + k)) = rowR v (n + k) N from rowR_copy v]
  exact h _ (heap_setRowF hg) (below_setRow hb hlo _)

theorem rowR_src {w : World} {g n k N : Nat} {v : Int} {t : TypeId} (h : w.heap[g]? = some (.cells (rowR v n N).toArray t (0, 0))) (hk : k ≤ n) : ∀ j, j < k → w.cell? ((⟨g, 0, none⟩ : Addr).add j) = some (.int .i64 v) := fun j hj => by
  rw [Addr.add_mid, Nat.zero_add, cell_of_row _ _ _ _ _ _ h, List.getElem?_toArray, rowR_at v (show j < n by omega)]
theorem rowR_fit {n N : Nat} (h : n ≤ N) : n + Nat.min n (N - n) ≤ N := by show n + min n (N - n) ≤ N; omega
theorem rowR_more {n N : Nat} (h1 : 1 ≤ n) (h2 : n < N) : 1 ≤ Nat.min n (N - n) := by
  have h : n.min (N - n) = n ∨ n.min (N - n) = N - n := by
    rcases Nat.le_total n (N - n) with h | h
    · exact .inl (Nat.min_eq_left h)
    · exact .inr (Nat.min_eq_right h)
  omega

set_option maxRecDepth 100000 in
set_option maxHeartbeats 4000000 in
theorem repeat_any (A : Option Addr) (v : Int) (N : Nat) (w : World) (ha : Rd w A 1 [v]) (hN1 : 1 ≤ N) (hN2 : N ≤ 64) :
    Calls Tryz.prog 30 #[.slice A 1 1, .int .i64 (N : Int)] w fun e w' => ∃ g, e = .returned (.slice (some ⟨g, 0, none⟩) N N) ∧ OwnI 3 w' w.heap.size (some ⟨g, 0, none⟩) N N (List.replicate N v) ∧ Below w.heap.size w w' := by
  obtain ⟨i0, hi, hz0, hz1, hz2⟩ := info_parts infoI
  have HI := Lib.hid hi; have HZ0 := Lib.hid hz0; have HZ1 := Lib.hid hz1; have HZ2 := Lib.hid hz2
  clear hi hz0 hz1 hz2
  obtain ⟨b0, o0, x, rfl, hg0, hx, hx0⟩ := ha.at_ (show 0 < 1 by decide)
  obtain rfl : v = x := by simpa using hx
  go_enter Tryz.func30, Tryz.ntmps30
  go_wp2_with fail
  have hM := Tryz.bits_Mul 1 N (by omega) (by omega) w
  rw [show 1 * N / 18446744073709551616 = 0 by omega, show 1 * N % 18446744073709551616 = N by omega] at hM
  refine hM.mono ?_
  rintro e w1 ⟨rfl, rfl⟩
  clear hM
  have hszI : (Tryz.prog.info? 3).map (·.size) = some 1 := by rw [HI.out]; exact congrArg some HZ1.out
  have hu := Tryz.underlying22
  have B0 := Below.refl w1.heap.size w1
  go_wp2_with (first
    | (at_make; refine wpList_make_full _ rfl _ _ 22 rfl w1.heap.size 3 i0 (.int .i64 0) 1 Tryz.underlying22 HI.out HZ0.out HZ1.out .i64 .i64 _ _ N rfl rfl rfl rfl (by rw [HZ2.out]; omega) (by unfold maxLen; omega) (by first | omega | (simp; omega) | simp) ?_; intro w2 hown1 hg1; have hrow := row_of_made v hown1; have hb2 : Below w1.heap.size w1 w2 := ⟨hg1.os, hg1.tape, hg1.output, hg1.size, fun i hi => hg1.block i hi (by simp)⟩; have hs2 := cell_keep hx0 hg0 hb2; have hs3 : ∀ j, j < 1 → w2.cell? ((⟨b0, o0, none⟩ : Addr).add j) = some (.int .i64 v) := (by intro j hj; obtain rfl : j = 0 := (by omega); rw [Addr.add_mid]; exact hs2))
    | (refine wpList_copy_rowR rfl (.tmp 31) (.tmp 32) 22 rfl 3 hu hszI v w1.heap.size 0 1 N N N ⟨b0, o0, none⟩ 1 1 rfl rfl 3 hrow (Nat.min_eq_left hN1).symm hs3 (by omega) w1.heap.size w1 hb2 (Nat.le_refl _) ?_; intro w3 hr3 hb3))
  have HR := Lib.hid hr3; have HB3 := Lib.hid hb3
  clear hr3 hb3 hrow hb2 hs2 hs3 hown1 hg1 hx0 hg0 hx ha
  obtain ⟨g, hg⟩ : ∃ g, g = w1.heap.size := ⟨_, rfl⟩
  rw [← hg] at HR HB3 ⊢
  have HGG := Lib.hid hg
  clear hg
  go_loopw [8] (fun s wr => ∃ n : Nat, 1 ≤ n ∧ n ≤ N ∧ s = .int .i64 n ∧ wr.heap[g]? = some (.cells (rowR v n N).toArray 3 (0, 0)) ∧ Below g w1 wr) (fun s _ => N - (intOf s).toNat)
  case atStart => exact ⟨1, by omega, hN1, rfl, HR.out, HB3.out⟩
  case round =>
    obtain ⟨n, hn1, hn, rfl, hrow, hbw⟩ := hrel
    have HROW := Lib.hid hrow; have HB := Lib.hid hbw
    clear hrow hbw
    by_cases hlt : n < N
    · have hne : ¬ N = n := by omega
      obtain ⟨k, hk⟩ : ∃ k, k = Nat.min n (N - n) := ⟨_, rfl⟩
      have HK := Lib.hid hk
      have hk1 : 1 ≤ k := by rw [hk]; exact rowR_more hn1 hlt
      have hfit : n + k ≤ N := by rw [hk]; exact rowR_fit hn
      have hkn : k ≤ n := by rw [hk]; exact Nat.min_le_left _ _
      clear hk
      have hsum : IntKind.i64.wrap ((n : Int) + (k : Int)) = (n : Int) + (k : Int) := IntWalk.i64_in _ (by omega)
      go_wp2
      go_region_held3 (fun _ => True) (first | exact trivial)
        (first | (refine step_copy_rowR rfl (.tmp 41) (.tmp 44) 22 rfl 3 hu hszI v g n k N (N - n) (N - n) ⟨g, 0, none⟩ n N rfl rfl 3 HROW.out HK.out (rowR_src HROW.out hkn) hfit g w1 (HB.out.drew) (Nat.le_refl _) ?_; intro w4 hr4 hb4))
      all_goals go_wp2
      all_goals go_roundw
      all_goals (first | exact ⟨n + k, by omega, hfit, by simp, hr4, hb4⟩ | (clear hsum; simp [intOf]; omega))
    · have hnN : n = N := by omega
      subst hnN
      go_wp2
      go_ret
      exact ⟨g, rfl, own_of_row (by simp) (by rw [HGG.out]; exact Nat.le_refl _) (by unfold maxLen; omega) (by rw [← rowR_full]; exact HROW.out), by rw [← HGG.out]; exact HB.out⟩
end Go.Proofs.YtomfgjbicpeggaaGreatDoor
