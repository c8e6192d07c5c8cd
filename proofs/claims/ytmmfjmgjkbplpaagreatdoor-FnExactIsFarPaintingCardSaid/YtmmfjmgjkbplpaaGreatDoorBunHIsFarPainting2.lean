/-
  Contracts: whether a list is a painting of a ground.
  Contracts: whether a list are colours of a board, in the model.
  Contracts: IsPainting.
  Contracts: IsPainting.
  Contracts: IsFarPainting, the model.
-/
import Derived.Test.YtmmfjmgjkbplpaaGreatDoorBunHIsFarPainting1
import Derived.Test.YtmmfjmgjkbplpaaGreatDoorE5
import Derived.Test.YtmmfjmgjkbplpaaGreatDoorS9
import Derived.Deep.RegionHeld3
import Derived.Test.YtmmfjmgjkbplpaaGreatDoorFP1
namespace Go.Proofs.YtmmfjmgjkbplpaaGreatDoor
open Go.RowKit Go.Shelf

def paintedB (W H : Int) (xs : List Int) (G : List Nat) (cs : List Int) : Bool := goodCols W H xs cs && (List.range 9).all fun c => freeB G (paintN cs cs.length c)
theorem all_range {f : Nat → Bool} {n k : Nat} (h : ∀ j, j < k → f j = true) (hk : k = n) : (List.range n).all f = true := by
  subst hk; rw [List.all_eq_true]; intro j hj; exact h j (by simpa using hj)
theorem info_groundE : (Tryz.prog.info? 48).map (·.size) = some 65 := info_ground

set_option maxRecDepth 100000 in
set_option maxHeartbeats 4000000 in
theorem isPainted_any (G : List Nat) (hG : G.length = 65) (hGb : ∀ x ∈ G, x < 18446744073709551616) (W H : Int) (A : Option Addr) (n c : Nat) (xs : List Int) (A2 : Option Addr) (m c2 : Nat) (cs : List Int) (w : World) (ha : Rd w A n xs) (hc : Rd w A2 m cs) (hg : goodB W H xs = true) (hT : Tab64 w) (hgb : 0 < w.heap.size) :
    Calls Tryz.prog 20 #[.agg (words G).toArray, brd W H A n c, .slice A2 m c2] w fun e w' => e = .returned (.bool (paintedB W H xs G cs)) ∧ Below w.heap.size w w' := by
  have HT := Lib.hid hT; have HG := Lib.hid hg; have HGB := Lib.hid hGb
  have m9 := hc.2.1
  have HML := Lib.hid hc.1
  obtain ⟨W2, hW2⟩ : ∃ W2, W2 = (w.alloc (.cells (words G).toArray 48)).alloc (.cells #[.int .i64 W, .int .i64 H, .slice A n c] 30) := ⟨_, rfl⟩
  have hs2 : W2.heap.size = w.heap.size + 2 := by rw [hW2]; simp
  have B := Lib.hid (show Below w.heap.size w W2 by rw [hW2]; exact (below_new (Below.refl _ _) _).alloc (by simp) _)
  have hgr := Lib.hid (show W2.heap[w.heap.size]? = some (.cells (words G).toArray 48 (0, 0)) by
    rw [hW2, Below.heap_alloc _ _ _ (by simp)]; exact World.alloc_heap_new _ _)
  have R := Lib.hid (ha.keep B.out); have RC := Lib.hid (hc.keep B.out)
  clear hT hg ha hc hGb
  cases hq : goodCols W H xs cs with
  | false =>
    go_enter Tryz.func20, Tryz.ntmps20
    go_wp2_with fail
    rw [← hW2]
    clear hW2
    refine (paintingOf_any W H A n c xs A2 m c2 cs W2 R.out RC.out HG.out).mono ?_
    rw [paintA, hq]
    rintro e ws ⟨rfl, hb⟩
    have hst := paint_lay ws none9_len
    unfold nine0 at hst
    rw [if_neg (by simp)]
    replace B := Lib.hid (below_next B.out hb)
    clear hb
    go_wp2
    go_ret
    exact ⟨by rw [paintedB, hq]; rfl, B.out.alloc B.out.size _⟩
  | true =>
    have hm8 : m ≤ 64 := by have := good_len hq; have := HML.out; have := cells_le (goodB_iff.1 HG.out).1 (goodB_iff.1 HG.out).2.1; omega
    have HQ := Lib.hid hq
    go_enter Tryz.func20, Tryz.ntmps20
    go_wp2_with fail
    rw [← hW2]
    clear hW2
    refine (paintingOf_any W H A n c xs A2 m c2 cs W2 R.out RC.out HG.out).mono ?_
    rw [paintA, hq]
    rintro e ws ⟨rfl, hb⟩
    rw [if_pos rfl]
    have hst := paint_lay ws (paintL_len cs cs.length)
    unfold nine0 at hst
    have hrow : (ws.alloc (.cells (words (paintL cs cs.length)).toArray 60)).heap[ws.heap.size]? = some (.cells (words (paintL cs cs.length)).toArray 60 (0, 0)) := World.alloc_heap_new _ _
    have hgs : ws.heap[w.heap.size]? = some (.cells (words G).toArray 48 (0, 0)) := (hb.block w.heap.size (by omega)).trans hgr.out
    have hgs2 := Lib.hid ((Below.heap_alloc ws (.cells (words (paintL cs cs.length)).toArray 60) w.heap.size (Array.getElem?_eq_some_iff.1 hgs).1).trans hgs)
    replace B := Lib.hid (below_next B.out hb)
    have hB0 := B.out.size
    have B3 := Lib.hid (B.out.alloc B.out.size (.cells (words (paintL cs cs.length)).toArray 60))
    have hw9 : w.heap.size < (ws.alloc (.cells (words (paintL cs cs.length)).toArray 60)).heap.size := Nat.lt_of_le_of_lt hB0 (by simp)
    clear hb hgs hq hB0
    go_wp2_with (refine wpList_load_mid rfl 60 _ rfl ws.heap.size 0 rfl (words (paintL cs cs.length)) (.array _ _) (fun j v hv => by rw [Nat.zero_add, cell_of_row _ _ _ _ _ _ hrow]; simpa using hv) rfl rfl (by rw [info_painting]; simp [words, paintL_len]) ?_)
    clear hst hrow
    generalize ws.alloc (.cells (words (paintL cs cs.length)).toArray 60) = W3 at *
    go_loopw [20] (fun i wr => ∃ k : Nat, k ≤ 9 ∧ i = .int .i64 k ∧ (∀ j, j < k → freeB G (paintN cs cs.length j) = true) ∧ Below W3.heap.size W3 wr) (fun i _ => 9 - (intOf i).toNat)
    case atStart => exact ⟨0, by omega, rfl, by omega, Below.refl _ _⟩
    case round =>
      obtain ⟨k, hk, rfl, hall, hbw⟩ := hrel
      have HALL := Lib.hid hall
      have HB := Lib.hid hbw
      have hwr := B3.out.trans (hbw.mono B3.out.size)
      have HWR := Lib.hid hwr
      clear hall
      by_cases hlt : k < 9
      · have hrun := run_paint (paintL cs cs.length) k (paintN cs cs.length k) hlt (paintL_at hlt)
        have hlt9 : paintN cs cs.length k < 18446744073709551616 := paintN_lt (by have := HML.out; omega)
        have hgw := (hbw.block w.heap.size hw9).trans hgs2.out
        have hfr := isFree_any G hG HGB.out (paintN cs cs.length k) hlt9 wr (HT.out.keep hgb hwr) (Nat.lt_of_lt_of_le hgb hwr.size)
        clear hbw hwr
        cases hf : freeB G (paintN cs cs.length k) with
        | true =>
          have HF := Lib.hid hf
          go_wp2_with (refine wpList_load_mid rfl 48 _ rfl w.heap.size 0 rfl (words G) (.struct _) (fun j v hv => by rw [Nat.zero_add, cell_of_row _ _ _ _ _ _ hgw]; simpa using hv) rfl rfl (by rw [info_groundE]; simp [words, hG]) ?_)
          refine hfr.mono ?_
          rw [hf]
          rintro e wy ⟨rfl, hb⟩
          replace HB := Lib.hid (HB.out.trans (hb.mono HB.out.size))
          clear hb hfr hrun hgw
          go_wp2
          go_roundw
          case rel => exact ⟨k + 1, by omega, by go_num, fun j hj => by by_cases e : j = k; (subst e; exact HF.out); exact HALL.out j (by omega), HB.out⟩
          case measure => simp [intOf]; omega
        | false =>
          have HF := Lib.hid hf
          go_wp2_with (refine wpList_load_mid rfl 48 _ rfl w.heap.size 0 rfl (words G) (.struct _) (fun j v hv => by rw [Nat.zero_add, cell_of_row _ _ _ _ _ _ hgw]; simpa using hv) rfl rfl (by rw [info_groundE]; simp [words, hG]) ?_)
          refine hfr.mono ?_
          rw [hf]
          rintro e wy ⟨rfl, hb⟩
          replace HB := Lib.hid (HB.out.trans (hb.mono HB.out.size))
          clear hb hfr hrun hgw
          go_wp2
          go_ret
          exact ⟨ret_bool (by symm; rw [paintedB, HQ.out, Bool.true_and, Bool.eq_false_iff]; intro h; have := List.all_eq_true.1 h k (by simpa using hlt); rw [HF.out] at this; cases this), B3.out.trans (HB.out.mono B3.out.size)⟩
      · have hk9 : k = 9 := by omega
        clear hbw hwr
        subst hk9
        go_wp2
        go_ret
        exact ⟨ret_bool (by symm; rw [paintedB, HQ.out, Bool.true_and]; exact all_range HALL.out rfl), HWR.out⟩
end Go.Proofs.YtmmfjmgjkbplpaaGreatDoor

namespace Go.Proofs.YtmmfjmgjkbplpaaGreatDoor
open Go.RowKit Go.Shelf
attribute [local go_sem] Oper.semAt_some

theorem undef_boolF {b : Bool} {R : Prop} (h : some undef = some (Value.bool b)) : R := by simp [undef] at h

set_option maxRecDepth 100000 in
set_option maxHeartbeats 8000000 in
theorem paGood_any (W H : Int) (A : Option Addr) (n c : Nat) (xs : List Int) (A2 : Option Addr) (m c2 : Nat) (cs : List Int) (w : World) (ha : Rd w A n xs) (hc : Rd w A2 m cs) (hg : goodB W H xs = true) :
    Calls Tryz.prog 14 #[brd W H A n c, .slice A2 m c2] w fun e w' => e = .returned (.bool (goodCols W H xs cs)) ∧ Below w.heap.size w w' := by
  refine (callsIn_wide (n := 5)).1 ?_
  refine callsIn_of_wp_marks Tryz.func14 rfl trivial ?_ rfl
  simp only [Tryz.ntmps14, List.size_toArray, List.length_cons, List.length_nil, Nat.reduceAdd, Nat.reduceSub, Array.replicate_succ, Array.replicate_zero, List.push_toArray, List.append_toArray, List.nil_append, List.cons_append]
  have m9 := hc.2.1
  have HML := Lib.hid hc.1
  obtain ⟨hW, hH, -, -⟩ := goodB_iff.1 hg
  have HN := Lib.hid (cells_le hW hH)
  obtain ⟨hN1, hN2⟩ := HN.out
  obtain ⟨hW1, hW2⟩ := hW
  obtain ⟨hH1, hH2⟩ := hH
  clear hg
  by_cases hlen : (m : Int) = W * H
  rotate_left
  · have hne : ((m : Int) != W * H) = true := by simpa using hlen
    have hbad : goodCols W H xs cs = false := by rw [goodCols, show decide ((cs.length : Int) = W * H) = false by have := HML.out; rw [this]; simpa using hlen]; rfl
    gi_wp2
    exact ⟨_, results_tmp rfl _ _ _, by rw [hbad]; rfl, below_new (Below.refl _ _) _⟩
  have hne : ((m : Int) != W * H) = false := by simpa using hlen
  have hm8 : m ≤ 64 := by omega
  have HLEN := Lib.hid hlen
  obtain ⟨W2, hW2⟩ : ∃ W2, W2 = w.alloc (.cells #[.int .i64 W, .int .i64 H, .slice A n c] 30) := ⟨_, rfl⟩
  have a0 : W2.cell? ⟨w.heap.size, 0, none⟩ = some (.int .i64 W) := by rw [hW2]; go_simp
  have a1 : W2.cell? ⟨w.heap.size, 1, none⟩ = some (.int .i64 H) := by rw [hW2]; go_simp
  have a2 : W2.cell? ⟨w.heap.size, 2, none⟩ = some (.slice A n c) := by rw [hW2]; go_simp
  have al : w.heap.size < W2.heap.size := by rw [hW2]; simp
  have B := Lib.hid (show Below w.heap.size w W2 by rw [hW2]; exact below_new (Below.refl _ _) _)
  have HA := Lib.hid ha; have HC := Lib.hid hc
  clear ha hc hlen
  gi_wp2
  rw [← hW2]
  clear hW2
  gi_loopw [17] (fun i wr => ∃ k : Nat, k ≤ m ∧ i = .int .i64 k ∧ goodFrom W H xs 0 cs = goodFrom W H xs k (cs.drop k) ∧ Below W2.heap.size W2 wr) (fun i _ => m - (intOf i).toNat)
  case atStart => exact ⟨0, Nat.zero_le _, rfl, rfl, Below.refl _ _⟩
  case round =>
    obtain ⟨k, hk, rfl, hgf, hbw⟩ := hrel
    have HGF := Lib.hid hgf
    have b0 := cell_keep a0 al hbw; have b1 := cell_keep a1 al hbw; have b2 := cell_keep a2 al hbw
    have bl := lt_keep al hbw
    have HB := Lib.hid hbw
    have HW := Lib.hid (B.out.trans (hbw.mono B.out.size))
    clear hgf hbw
    by_cases hlt : k < m
    · obtain ⟨b1', o1, x, rfl, hl1, hx, hc1⟩ := HC.out.at_ hlt
      have HX := Lib.hid hx
      have x0 := cell_keep hc1 hl1 HW.out
      have hI := boHas_any W H A n c k xs wr (HA.out.keep HW.out) HN.out
      clear hx hc1 hl1
      obtain ⟨p, hp⟩ : ∃ p, p = hasB W H xs k := ⟨_, rfl⟩
      obtain ⟨q, hq⟩ : ∃ q, q = inB x 0 8 := ⟨_, rfl⟩
      rw [← hp] at hI
      have HP := Lib.hid hp; have HQ := Lib.hid hq
      clear hp
      gi_wp2
      refine ⟨trivial, (callsIn_wide.2 hI).mono ?_⟩
      rintro e w2 ⟨rfl, hb⟩
      replace b0 := cell_keep b0 bl hb; replace b1 := cell_keep b1 bl hb; replace b2 := cell_keep b2 bl hb
      replace bl := lt_keep bl hb
      replace HB := Lib.hid (HB.out.trans (hb.mono HB.out.size))
      replace HW := Lib.hid (HW.out.trans (hb.mono HW.out.size))
      clear hb hI x0
      gi_wp2
      refine ⟨trivial, (callsIn_wide.2 (l1In_any x 0 8 w2)).mono ?_⟩
      rw [← hq]
      rintro e w3 ⟨rfl, rfl⟩
      clear hq
      cases p with
      | true =>
        cases q with
        | true =>
          gi_wp2
          refine ⟨trivial, (callsIn_wide.2 (boHas_any W H A n c k xs _ (HA.out.keep HW.out) HN.out)).mono ?_⟩
          rw [← HP.out]
          rintro e w4 ⟨rfl, hb⟩
          replace HB := Lib.hid (HB.out.trans (hb.mono HB.out.size))
          replace HW := Lib.hid (HW.out.trans (hb.mono HW.out.size))
          clear hb
          gi_wp2
          go_roundw
          case rel => exact ⟨k + 1, by omega, by go_num, by rw [HGF.out, goodFrom_drop HX.out, show cellOk W H xs k x = true by rw [cellOk, ← HP.out]; exact HQ.out.symm]; rfl, HB.out⟩
          case measure => simp [intOf]; omega
        | false =>
          gi_wp2
          refine ⟨trivial, ?_⟩
          gi_wp2_with (rename_i h8 h9; exact undef_boolF h8)
          exact ⟨_, results_tmp rfl _ _ _, by rw [goodCols, HGF.out, goodFrom_drop HX.out, show cellOk W H xs k x = false by rw [cellOk, ← HP.out]; exact HQ.out.symm]; simp, HW.out⟩
      | false =>
        cases q with
        | true =>
          gi_wp2
          refine ⟨trivial, ?_⟩
          gi_wp2_with (rename_i h8 h9; exact undef_boolF h8)
          exact ⟨_, results_tmp rfl _ _ _, by rw [goodCols, HGF.out, goodFrom_drop HX.out, show cellOk W H xs k x = false by rw [cellOk, ← HP.out]; have := inB_iff.1 HQ.out.symm; simp; omega]; simp, HW.out⟩
        | false =>
          by_cases hx1 : x = -1
          · have hj : (x != -1) = false := by simpa using hx1
            gi_wp2
            refine ⟨trivial, (callsIn_wide.2 (boHas_any W H A n c k xs _ (HA.out.keep HW.out) HN.out)).mono ?_⟩
            rw [← HP.out]
            rintro e w4 ⟨rfl, hb⟩
            replace HB := Lib.hid (HB.out.trans (hb.mono HB.out.size))
            replace HW := Lib.hid (HW.out.trans (hb.mono HW.out.size))
            clear hb
            gi_wp2
            go_roundw
            case rel => exact ⟨k + 1, by omega, by go_num, by rw [HGF.out, goodFrom_drop HX.out, show cellOk W H xs k x = true by rw [cellOk, ← HP.out]; simpa using hx1]; rfl, HB.out⟩
            case measure => simp [intOf]; omega
          · have hj : (x != -1) = true := by simpa using hx1
            gi_wp2
            refine ⟨trivial, (callsIn_wide.2 (boHas_any W H A n c k xs _ (HA.out.keep HW.out) HN.out)).mono ?_⟩
            rw [← HP.out]
            rintro e w4 ⟨rfl, hb⟩
            replace HB := Lib.hid (HB.out.trans (hb.mono HB.out.size))
            replace HW := Lib.hid (HW.out.trans (hb.mono HW.out.size))
            clear hb
            gi_wp2
            exact ⟨_, results_tmp rfl _ _ _, by rw [goodCols, HGF.out, goodFrom_drop HX.out, show cellOk W H xs k x = false by rw [cellOk, ← HP.out]; simpa using hx1]; simp, HW.out⟩
    · have hkm : k = m := by omega
      subst hkm
      have hgood : goodCols W H xs cs = true := by rw [goodCols, HGF.out, List.drop_of_length_le (by have := HML.out; omega)]; have := HLEN.out; have := HML.out; simp [goodFrom]; omega
      gi_wp2
      exact ⟨_, results_tmp rfl _ _ _, by rw [hgood]; rfl, HW.out⟩

end Go.Proofs.YtmmfjmgjkbplpaaGreatDoor

namespace Go.Proofs.YtmmfjmgjkbplpaaGreatDoor
open Go.RowKit

theorem Tab64.drew1 {w : World} (h : Tab64 w) : Tab64 w.drew := h
def isPaintV (W H : Int) (xs : List Int) (a b : Int) (cs : List Int) : Bool := twoV W H xs a b && (goodCols W H xs cs && paIsB W H xs a b cs)
theorem gl_lt {W H a b : Int} {xs : List Int} (hg : goodB W H xs = true) : ∀ y ∈ gl W H xs a b (cellsL W H xs), y < 18446744073709551616 := by
  have hcl := cells_rng64 hg
  intro y hy
  rcases List.mem_cons.1 hy with rfl | hy
  · exact set_lt hcl
  · obtain ⟨c, _, rfl⟩ := List.mem_map.1 hy
    split
    · exact set_lt (fun z hz => hcl z (List.mem_filter.1 hz).1)
    · decide

end Go.Proofs.YtmmfjmgjkbplpaaGreatDoor

namespace Go.Proofs.YtmmfjmgjkbplpaaGreatDoor
open Go.RowKit

theorem addN_mem {out : List Int} {x z : Int} : z ∈ addN out x ↔ z ∈ out ∨ z = x := by
  unfold addN
  split
  · rename_i h
    have hx : x ∈ out := List.contains_iff_mem.1 h
    exact ⟨.inl, fun h => h.elim id (fun e => e ▸ hx)⟩
  · simp
theorem addF_mem {c x z : Int} {out : List Int} : z ∈ addF c out x ↔ z ∈ out ∨ (z = x ∧ z ≠ c) := by
  unfold addF
  split
  · rename_i h
    subst h
    exact ⟨.inl, fun h => h.elim id (fun e => absurd e.1 e.2)⟩
  · rename_i h
    rw [addN_mem]
    exact ⟨fun h2 => h2.imp id (fun e => ⟨e, by rw [e]; exact h⟩), fun h2 => h2.imp id (fun e => e.1)⟩
theorem foldF_mem {c z : Int} : ∀ {l out : List Int}, z ∈ l.foldl (addF c) out ↔ z ∈ out ∨ (z ∈ l ∧ z ≠ c)
  | [], out => by simp
  | x :: t, out => by
    rw [List.foldl_cons, foldF_mem, addF_mem, List.mem_cons]
    constructor
    · rintro ((h | h) | h)
      · exact .inl h
      · exact .inr ⟨.inl h.1, h.2⟩
      · exact .inr ⟨.inr h.1, h.2⟩
    · rintro (h | ⟨h | h, h2⟩)
      · exact .inl (.inl h)
      · exact .inl (.inr ⟨h, h2⟩)
      · exact .inr ⟨h, h2⟩
theorem foldN_mem {adj : Int → List Int} {c z : Int} : ∀ {l out : List Int}, z ∈ l.foldl (nearIn adj c) out ↔ z ∈ out ∨ ∃ y ∈ l, z = y ∨ (z ∈ adj y ∧ z ≠ c)
  | [], out => by simp
  | x :: t, out => by
    rw [List.foldl_cons, foldN_mem, nearIn, foldF_mem, addN_mem]
    constructor
    · rintro (((h | h) | h) | ⟨y, hy, h⟩)
      · exact .inl h
      · exact .inr ⟨x, List.mem_cons_self, .inl h⟩
      · exact .inr ⟨x, List.mem_cons_self, .inr h⟩
      · exact .inr ⟨y, List.mem_cons_of_mem _ hy, h⟩
    · rintro (h | ⟨y, hy, h⟩)
      · exact .inl (.inl (.inl h))
      · rcases List.mem_cons.1 hy with rfl | hy
        · rcases h with h | h
          · exact .inl (.inl (.inr h))
          · exact .inl (.inr h)
        · exact .inr ⟨y, hy, h⟩
theorem nearL_mem {adj : Int → List Int} {c z : Int} : z ∈ nearL adj c ↔ ∃ y ∈ adj c, z = y ∨ (z ∈ adj y ∧ z ≠ c) := by
  unfold nearL
  rw [foldN_mem]; simp
theorem nearL_in {W H a b c z : Int} {xs : List Int} (h : z ∈ nearL (leapsL W H xs a b) c) : z ∈ cellsL W H xs := by
  obtain ⟨y, hy, h⟩ := nearL_mem.1 h
  rcases h with rfl | h
  · exact (List.mem_filter.1 hy).1
  · exact (List.mem_filter.1 h.1).1
/-- No two cells of one colour have the distance 1 or 2. -/
def farB (W H : Int) (xs : List Int) (a b : Int) (cs : List Int) : Bool := (cellsL W H xs).all fun c => (nearL (leapsL W H xs a b) c).all fun d => !(cAt cs c == cAt cs d)
def isFarV (W H : Int) (xs : List Int) (a b : Int) (cs : List Int) : Bool := twoV W H xs a b && (goodCols W H xs cs && farB W H xs a b cs)
theorem ret_two {x x' y y' : Bool} (h1 : x = x') (h2 : y = y') : Ending.returned (.tuple #[.bool x', .bool y']) = .returned (.tuple #[.bool x, .bool y]) := by rw [h1, h2]

set_option maxRecDepth 100000 in
set_option maxHeartbeats 4000000 in
theorem spec_IsFarPainting (W H : Int) (A : Option Addr) (n c : Nat) (xs : List Int) (a b : Int) (A2 : Option Addr) (m c2 : Nat) (cs : List Int) (w : World) (ha : Rd w A n xs) (hc : Rd w A2 m cs) :
    Calls Tryz.prog 5 #[brd W H A n c, lpr a b, .slice A2 m c2] w fun e w' => e = .returned (.tuple #[.bool (isFarV W H xs a b cs), .bool (twoV W H xs a b)]) ∧ Below w.heap.size w w' := by
  by_cases ht : twoV W H xs a b = true
  · have HT := Lib.hid ht
    have HG := Lib.hid (two_gK ht)
    cases hq : goodCols W H xs cs with
    | true =>
      have HQ := Lib.hid hq
      go_enter Tryz.func5, Tryz.ntmps5
      go_wp2_with fail
      refine (boTwoV_any _ _ _ _ _ _ _ _ _ ((ha.alloc _).alloc _)).mono ?_
      rw [ht]
      rintro e wv ⟨rfl, hb⟩
      have hbx0 := below_box hb
      have a0 : wv.cell? ⟨w.heap.size, 0, none⟩ = some (.int .i64 W) := by simpa using newbox hbx0 0
      have a1 : wv.cell? ⟨w.heap.size, 1, none⟩ = some (.int .i64 H) := by simpa using newbox hbx0 1
      have a2 : wv.cell? ⟨w.heap.size, 2, none⟩ = some (.slice A n c) := by simpa using newbox hbx0 2
      have al : w.heap.size < wv.heap.size := by simpa using newbox_lt hbx0
      have l0 : wv.cell? ⟨w.heap.size + 1, 0, none⟩ = some (.int .i64 a) := by simpa using newbox hb 0
      have l1 : wv.cell? ⟨w.heap.size + 1, 1, none⟩ = some (.int .i64 b) := by simpa using newbox hb 1
      have ll : w.heap.size + 1 < wv.heap.size := by simpa using newbox_lt hb
      have B := Lib.hid (below_box hbx0)
      clear hb hbx0 ht
      go_wp2_with fail
      refine (paGood_any W H A n c xs A2 m c2 cs _ (ha.keep B.out) (hc.keep B.out) HG.out).mono ?_
      rw [hq]
      rintro e ws ⟨rfl, hb⟩
      have ga := lt_keep al hb; have gl := lt_keep ll hb
      replace a0 := cell_keep a0 al hb; replace a1 := cell_keep a1 al hb; replace a2 := cell_keep a2 al hb; replace l0 := cell_keep l0 ll hb; replace l1 := cell_keep l1 ll hb
      replace B := Lib.hid (below_next B.out hb)
      have R := Lib.hid (ha.keep B.out); have RC := Lib.hid hc
      have HML := Lib.hid hc.1
      have m9 := hc.2.1
      have HLEN := Lib.hid (good_len HQ.out)
      have HN := Lib.hid (cells_le (goodB_iff.1 HG.out).1 (goodB_iff.1 HG.out).2.1)
      clear hb hq al ll ha hc
      go_wp2_with fail
      refine (boCells_any W H A n c xs _ R.out HN.out).mono ?_
      rintro e wt ⟨A1, n1, c1, rfl, hst, hb⟩
      replace a0 := cell_keep a0 ga hb; replace a1 := cell_keep a1 ga hb; replace a2 := cell_keep a2 ga hb; replace l0 := cell_keep l0 gl hb; replace l1 := cell_keep l1 gl hb; replace ga := lt_keep ga hb; replace gl := lt_keep gl hb; replace R := Lib.hid (R.out.keep hb)
      replace B := Lib.hid (below_next B.out hb)
      have ST := Lib.hid hst.rd
      have SL := Lib.hid hst.len
      have n8 : n1 ≤ 64 := by have := cellsL_len64 (xs := xs) HN.out; have := hst.len; omega
      clear hst hb
      go_wp2
      go_loopw [23] (fun i wr => ∃ k : Nat, k ≤ n1 ∧ i = .int .i64 k ∧ ((cellsL W H xs).take k).all (fun c => (nearL (leapsL W H xs a b) c).all fun d => !(cAt cs c == cAt cs d)) = true ∧ Below wt.heap.size wt wr) (fun i _ => n1 - (intOf i).toNat)
      case atStart => exact ⟨0, Nat.zero_le _, rfl, by simp, Below.refl _ _⟩
      case round =>
        obtain ⟨k, hk, rfl, hall, hbw⟩ := hrel
        have HALL := Lib.hid hall
        have HB := Lib.hid hbw
        clear hall
        by_cases hlt : k < n1
        · obtain ⟨bb, oo, x, rfl, hg1, hx, x0⟩ := ST.out.at_ hlt
          have HX := Lib.hid hx
          have hxm := List.mem_of_getElem? hx
          obtain ⟨hx0, hx1⟩ := cells_rng64 HG.out x hxm
          have hxN : x.toNat < m := by have := (hasB_iff.1 (cellsL_mem.1 hxm)).1; have := HLEN.out; have := HML.out; omega
          obtain ⟨p, rfl⟩ : ∃ p : Nat, x = (p : Int) := ⟨x.toNat, by omega⟩
          rw [Int.toNat_natCast] at hxN
          have HXM := Lib.hid hxm
          replace x0 := cell_keep x0 hg1 hbw
          have b0 := cell_keep a0 ga hbw; have b1 := cell_keep a1 ga hbw; have b2 := cell_keep a2 ga hbw; have m0 := cell_keep l0 gl hbw; have m1 := cell_keep l1 gl hbw
          have gb := lt_keep ga hbw; have gm := lt_keep gl hbw
          have hL := paNear_any W H A n c xs a b p wr (R.out.keep hbw) HG.out (by omega)
          clear hx hbw hxm hg1
          go_wp2_with fail
          refine hL.mono ?_
          rintro e wv ⟨A3, n3, c3, rfl, hown, hb⟩
          replace b0 := cell_keep b0 gb hb; replace b1 := cell_keep b1 gb hb; replace b2 := cell_keep b2 gb hb; replace m0 := cell_keep m0 gm hb; replace m1 := cell_keep m1 gm hb
          have LT := Lib.hid hown.rd
          have LL := Lib.hid hown.len
          have n9 := hown.rd.2.1
          have HV := Lib.hid (HB.out.trans (hb.mono HB.out.size))
          clear hb hown hL x0
          go_wp2
          go_loopw [32] (fun i wr => ∃ j : Nat, j ≤ n3 ∧ i = .int .i64 j ∧ ((nearL (leapsL W H xs a b) (p : Int)).take j).all (fun d => !(cAt cs p == cAt cs d)) = true ∧ Below wv.heap.size wv wr) (fun i _ => n3 - (intOf i).toNat)
          case atStart => exact ⟨0, Nat.zero_le _, rfl, by simp, Below.refl _ _⟩
          case round =>
            obtain ⟨j, hj, rfl, hallj, hbj⟩ := hrel
            rename_i wz
            have HALJ := Lib.hid hallj
            have HBJ := Lib.hid hbj
            have HW0 := Lib.hid (B.out.trans ((HV.out.trans (hbj.mono HV.out.size)).mono B.out.size))
            clear hallj
            by_cases hltj : j < n3
            · obtain ⟨b3, o3, y, rfl, hg3, hy, y0⟩ := LT.out.at_ hltj
              have HY := Lib.hid hy
              have hym := nearL_in (List.mem_of_getElem? hy)
              obtain ⟨hy0, hy1⟩ := cells_rng64 HG.out y hym
              have hyN : y.toNat < m := by have := (hasB_iff.1 (cellsL_mem.1 hym)).1; have := HLEN.out; have := HML.out; omega
              obtain ⟨q, rfl⟩ : ∃ q : Nat, y = (q : Int) := ⟨y.toNat, by omega⟩
              rw [Int.toNat_natCast] at hyN
              replace y0 := cell_keep y0 hg3 hbj
              obtain ⟨b4, o4, u, rfl, hg4, hu, u0⟩ := RC.out.at_ hxN
              obtain ⟨b5, o5, v, e5, hg5, hv, v0⟩ := RC.out.at_ hyN
              obtain ⟨rfl, rfl⟩ : b4 = b5 ∧ o4 = o5 := by simp at e5; exact e5
              replace u0 := cell_keep u0 hg4 HW0.out
              replace v0 := cell_keep v0 hg5 HW0.out
              have HU := Lib.hid (show cAt cs (p : Int) = u by have := cAt_of (x := (p : Int)) (cs := cs) (by have := HML.out; omega); rw [Int.toNat_natCast, hu] at this; injection this with this; exact this.symm)
              have HV2 := Lib.hid (show cAt cs (q : Int) = v by have := cAt_of (x := (q : Int)) (cs := cs) (by have := HML.out; omega); rw [Int.toNat_natCast, hv] at this; injection this with this; exact this.symm)
              clear hy hym hu hv hbj e5 hg3 hg4 hg5
              cases huv : (u == v) with
              | true =>
                have HUV := Lib.hid huv
                go_wp2
                go_quiet (fail)
                go_wp2
                go_ret2
                exact ⟨ret_two (by
                  rw [isFarV, HT.out, HQ.out, Bool.true_and, Bool.true_and, Bool.eq_false_iff]; intro h
                  have h1 := List.all_eq_true.1 (List.all_eq_true.1 h (p : Int) HXM.out) (q : Int) (List.mem_of_getElem? HY.out)
                  rw [HU.out, HV2.out, HUV.out] at h1; cases h1) HT.out, below_drewN HW0.out _⟩
              | false =>
                have HUV := Lib.hid huv
                go_wp2
                go_quiet (fail)
                go_wp2
                go_roundw
                case rel => exact ⟨j + 1, by omega, by go_num, by rw [List.take_add_one, HY.out, List.all_append, HALJ.out]; simp [HU.out, HV2.out, HUV.out], below_drewN HBJ.out _⟩
                case measure => simp [intOf]; omega
            · have hjn : j = n3 := by omega
              subst hjn
              have HE := Lib.hid (show (nearL (leapsL W H xs a b) (p : Int)).all (fun d => !(cAt cs p == cAt cs d)) = true by have h := HALJ.out; rw [List.take_of_length_le (by have := LL.out; omega)] at h; exact h)
              clear hbj
              go_wp2
              go_roundw
              case rel => exact ⟨k + 1, by omega, by go_num, by rw [List.take_add_one, HX.out, List.all_append, HALL.out]; simpa using HE.out, HV.out.trans (HBJ.out.mono HV.out.size)⟩
              case measure => simp [intOf]; omega
        · have hkn : k = n1 := by omega
          subst hkn
          clear hbw
          go_wp2
          go_ret2
          exact ⟨ret_two (by have h := HALL.out; rw [List.take_of_length_le (by have := SL.out; omega)] at h; rw [isFarV, HT.out, HQ.out, farB, h]; rfl) HT.out, B.out.trans (HB.out.mono B.out.size)⟩
    | false =>
      have HQ := Lib.hid hq
      go_enter Tryz.func5, Tryz.ntmps5
      go_wp2_with fail
      refine (boTwoV_any _ _ _ _ _ _ _ _ _ ((ha.alloc _).alloc _)).mono ?_
      rw [ht]
      rintro e wv ⟨rfl, hb⟩
      have hbx0 := below_box hb
      have a0 : wv.cell? ⟨w.heap.size, 0, none⟩ = some (.int .i64 W) := by simpa using newbox hbx0 0
      have a1 : wv.cell? ⟨w.heap.size, 1, none⟩ = some (.int .i64 H) := by simpa using newbox hbx0 1
      have a2 : wv.cell? ⟨w.heap.size, 2, none⟩ = some (.slice A n c) := by simpa using newbox hbx0 2
      have B := Lib.hid (below_box hbx0)
      clear hb hbx0 ht
      go_wp2_with fail
      refine (paGood_any W H A n c xs A2 m c2 cs _ (ha.keep B.out) (hc.keep B.out) HG.out).mono ?_
      rw [hq]
      rintro e ws ⟨rfl, hb⟩
      replace B := Lib.hid (below_next B.out hb)
      clear hb hq a0 a1 a2
      go_wp2
      go_ret2
      exact ⟨by rw [isFarV, HT.out, HQ.out]; rfl, B.out⟩
  · have ht' : twoV W H xs a b = false := by simpa using ht
    go_enter Tryz.func5, Tryz.ntmps5
    go_wp2_with fail
    refine (boTwoV_any _ _ _ _ _ _ _ _ _ ((ha.alloc _).alloc _)).mono ?_
    rw [ht']
    rintro e wv ⟨rfl, hb⟩
    have B := Lib.hid (below_box (below_box hb))
    clear hb
    go_wp2
    go_ret2
    exact ⟨by rw [isFarV, ht']; rfl, B.out⟩

end Go.Proofs.YtmmfjmgjkbplpaaGreatDoor
