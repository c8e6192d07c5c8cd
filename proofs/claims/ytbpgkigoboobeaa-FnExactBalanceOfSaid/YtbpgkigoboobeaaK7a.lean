/-
  Contracts: how many cells are even, how many odd.
-/
import Derived.Test.YtbpgkigoboobeaaB7
import Derived.Test.YtbpgkigoboobeaaMem2
namespace Go.Proofs.Ytbpgkigoboobeaa
open Go.RowKit

def evB (W c : Int) : Bool := (c % W + c / W) % 2 == 0
def eN (W : Int) (l : List Int) : Nat := (l.filter (evB W)).length
def oN (W : Int) (l : List Int) : Nat := (l.filter fun c => !evB W c).length
theorem eo_len (W : Int) : ∀ l : List Int, eN W l + oN W l = l.length
  | [] => rfl
  | x :: t => by
    have := eo_len W t
    simp only [eN, oN] at this ⊢
    cases h : evB W x <;> simp [h] <;> omega
theorem e_step {W x : Int} {l : List Int} {k : Nat} (hx : l[k]? = some x) (h : evB W x = true) : eN W (l.take (k + 1)) = eN W (l.take k) + 1 ∧ oN W (l.take (k + 1)) = oN W (l.take k) := by
  simp only [eN, oN]; rw [List.take_add_one, hx]; simp [List.filter_append, h]
theorem o_step {W x : Int} {l : List Int} {k : Nat} (hx : l[k]? = some x) (h : evB W x = false) : eN W (l.take (k + 1)) = eN W (l.take k) ∧ oN W (l.take (k + 1)) = oN W (l.take k) + 1 := by
  simp only [eN, oN]; rw [List.take_add_one, hx]; simp [List.filter_append, h]
theorem good_N7 {W H : Int} {xs : List Int} (h : goodB W H xs = true) : 1 ≤ W * H ∧ W * H ≤ 64 := by
  obtain ⟨hW, hH, _, _⟩ := goodB_iff.1 h
  exact cells_le hW hH
theorem cells_64 {W H : Int} {xs : List Int} (h : goodB W H xs = true) : (cellsL W H xs).length ≤ 64 := by
  have hN := good_N7 h
  have h1 := List.length_filter_le (hasB W H xs) (upTo (W * H).toNat)
  have h2 : (upTo (W * H).toNat).length = (W * H).toNat := by simp [upTo]
  rw [cellsL, cellsTo]; omega
theorem cells_rng {W H : Int} {xs : List Int} (h : goodB W H xs = true) : ∀ x ∈ cellsL W H xs, 0 ≤ x ∧ x ≤ 64 := fun x hx => by
  have := (hasB_iff.1 (List.mem_filter.1 hx).2).1
  have := good_N7 h; omega
theorem row_facts {W x : Int} (hW : 1 ≤ W ∧ W ≤ 8) (hx : 0 ≤ x ∧ x ≤ 64) : 0 ≤ x % W ∧ x % W ≤ 7 ∧ 0 ≤ x / W ∧ x / W ≤ 64 := by
  have h1 := mod_bd (c := x) hW
  exact ⟨h1.1, h1.2.2, Int.ediv_nonneg hx.1 (by omega), Int.le_trans (Int.ediv_le_self _ hx.1) hx.2⟩

theorem _root_.Go.World.grownBy.trans_below {a w w' : World} {row : Option Nat} (h : a.grownBy w row) (hb : Below w.heap.size w w') : a.grownBy w' row := grown_next h (grown_of_below hb row)
theorem _root_.Go.World.grownBy.alloc_ {a w : World} {row : Option Nat} (h : a.grownBy w row) (o : Obj) : a.grownBy (w.alloc o) row := grown_next h (grown_of_below ((Below.refl _ w).alloc (Nat.le_refl _) o) row)

set_option maxRecDepth 100000 in
set_option maxHeartbeats 4000000 in
theorem balanceOf_any (W H : Int) (A : Option Addr) (n c : Nat) (xs : List Int) (w : World) (ha : Rd w A n xs) (hg : goodB W H xs = true) :
    Calls Try.prog 43 #[brd W H A n c] w fun e w' => e = .returned (.tuple #[.int .i64 (eN W (cellsL W H xs) : Int), .int .i64 (oN W (cellsL W H xs) : Int)]) ∧ Below w.heap.size w w' := by
  have HG := Lib.hid hg
  have HW : Hid (1 ≤ W ∧ W ≤ 8) := Lib.hid (goodB_iff.1 hg).1
  clear hg
  obtain ⟨W1, hW1⟩ : ∃ W1, W1 = w.alloc (.cells #[.int .i64 W, .int .i64 H, .slice A n c] 28) := ⟨_, rfl⟩
  obtain ⟨W2, hW2⟩ : ∃ W2, W2 = W1.alloc (.cells #[.int .i64 0, .int .i64 0] 77) := ⟨_, rfl⟩
  have hs1 : W1.heap.size = w.heap.size + 1 := by rw [hW1]; simp
  have hs2 : W2.heap.size = w.heap.size + 1 + 1 := by rw [hW2]; simp [hs1]
  have hrow : OwnI 77 W2 w.heap.size (some ⟨w.heap.size + 1, 0, none⟩) 2 2 [0, 0] := by
    have h := World.ownsRow_lit (base := w.heap.size) (e := 77) W1 (#[.int .i64 0, .int .i64 0] : Array Value) 2 (size := 1) (by omega) (by decide) rfl
    rw [hs1, ← hW2] at h
    exact h
  have a0 : W2.cell? ⟨w.heap.size, 0, none⟩ = some (.int .i64 W) := by rw [hW2, hW1]; go_simp
  have a1 : W2.cell? ⟨w.heap.size, 1, none⟩ = some (.int .i64 H) := by rw [hW2, hW1]; go_simp
  have a2 : W2.cell? ⟨w.heap.size, 2, none⟩ = some (.slice A n c) := by rw [hW2, hW1]; go_simp
  have al : w.heap.size < W2.heap.size := by omega
  have B := Lib.hid (show Below w.heap.size w W2 by rw [hW2, hW1]; exact ((Below.refl _ _).alloc (Nat.le_refl _) _).alloc (by simp) _)
  have ROW := Lib.hid hrow
  have ha0 := Lib.hid ha
  have R := Lib.hid (ha.keep B.out)
  clear hrow ha
  go_enter Try.func43, Try.ntmps43
  go_wp2_with fail
  rw [← hW1, ← hW2]
  clear hW1 hW2
  refine (cellsThere_any W H A n c xs W2 R.out HG.out).mono ?_
  rintro e wv ⟨A', n', c', rfl, own, hb⟩
  have OWN := Lib.hid own
  have HL := Lib.hid own.len
  have hn8 : n' ≤ 64 := by have := own.len; have := cells_64 HG.out; omega
  replace a0 := cell_keep a0 al hb; replace a1 := cell_keep a1 al hb; replace a2 := cell_keep a2 al hb; replace al := lt_keep al hb
  replace ROW := Lib.hid (ROW.out.keep hb)
  replace R := Lib.hid (ha0.out.keep (below_next B.out hb))
  have HS2 := Lib.hid hs2
  have HSV := Lib.hid hb.size
  replace B := Lib.hid (below_next B.out hb)
  have HA := Lib.hid (⟨a0, a1, a2⟩ : wv.cell? ⟨w.heap.size, 0, none⟩ = some (.int .i64 W) ∧ wv.cell? ⟨w.heap.size, 1, none⟩ = some (.int .i64 H) ∧ wv.cell? ⟨w.heap.size, 2, none⟩ = some (.slice A n c))
  clear own hb hs1 hs2 a0 a1 a2
  obtain ⟨gC, hgC⟩ : ∃ gC, gC = w.heap.size + 1 := ⟨_, rfl⟩
  rw [← hgC] at ROW ⊢
  have HGC := Lib.hid hgC
  clear hgC
  go_wp2
  go_loopw [11] (fun i wr => ∃ (k E O : Nat), k ≤ n' ∧ i = .int .i64 k ∧ E = eN W ((cellsL W H xs).take k) ∧ O = oN W ((cellsL W H xs).take k) ∧ OwnI 77 wr w.heap.size (some ⟨gC, 0, none⟩) 2 2 [(E : Int), (O : Int)] ∧ wv.grownBy wr (some gC)) (fun i _ => n' - (intOf i).toNat)
  case atStart => exact ⟨0, 0, 0, Nat.zero_le _, rfl, by simp [eN], by simp [oN], ROW.out, grown_refl _ _⟩
  case round =>
    obtain ⟨k, E, O, hk, rfl, hE, hO, hrow, hgw⟩ := hrel
    have HE := Lib.hid hE; have HO := Lib.hid hO
    have hb9 : E ≤ 64 ∧ O ≤ 64 := by
      have := eo_len W ((cellsL W H xs).take k)
      rw [List.length_take, HL.out] at this; omega
    obtain ⟨hE9, hO9⟩ := hb9
    have ROW2 := Lib.hid hrow
    have c0 := hrow.cell (k := 0) (x := (E : Int)) rfl
    have c1 := hrow.cell (k := 1) (x := (O : Int)) rfl
    have f0 := hrow.frozen 0
    have f1 := hrow.frozen 1
    have hgl : gC < wr.heap.size := by rcases hrow.some_ (k := 0) (by omega) with ⟨g9, h9, _, h8⟩; injection h9 with h9; injection h9 with h9; omega
    clear hrow hE hO
    by_cases hlt : k < n'
    · obtain ⟨g, rfl, hg1, hg2⟩ := OWN.out.some_ hlt
      obtain ⟨x, hx⟩ : ∃ x, (cellsL W H xs)[k]? = some x := ⟨_, List.getElem?_eq_getElem (show k < (cellsL W H xs).length by have := HL.out; omega)⟩
      have hne : g ≠ gC := by have := HGC.out; have := HS2.out; omega
      have hne2 : w.heap.size ≠ gC := by have := HGC.out; omega
      have x0 := hgw.cell (OWN.out.cell hx) (by simpa using hne)
      have a0 := hgw.cell HA.out.1 (by simpa using hne2)
      have a1 := hgw.cell HA.out.2.1 (by simpa using hne2)
      have a2 := hgw.cell HA.out.2.2 (by simpa using hne2)
      have HX := Lib.hid hx
      have HXR := Lib.hid (cells_rng HG.out x (List.mem_of_getElem? hx))
      obtain ⟨hx0, hx1⟩ := HXR.out
      obtain ⟨hr1, hr2, hr3, hr4⟩ := row_facts HW.out ⟨hx0, hx1⟩
      have HGW := Lib.hid hgw
      clear hx hgw hne hne2
      cases hs : evB W x with
      | true =>
        have HS := Lib.hid hs
        have hpv : (x % W + x / W) % 2 = 0 := by simpa [evB] using hs
        clear hs
        go_wp2_with fail
        refine (spotOf_any W H A n c x _ HW.out HXR.out).mono ?_
        rintro e wx ⟨rfl, hb⟩
        replace c0 := cell_keep c0 hgl hb; replace c1 := cell_keep c1 hgl hb
        replace f0 := (hb.frozen (p := ⟨gC, 0, none⟩) hgl).trans f0
        replace ROW2 := Lib.hid (ROW2.out.keep hb)
        replace hgl := lt_keep hgl hb
        have G2 := Lib.hid (HGW.out.trans_below hb)
        clear hb a0 a1 a2 x0
        go_wp2
        go_roundw
        case rel =>
          obtain ⟨o1, g1⟩ := ROW2.out.stored 0 ((E : Int) + 1)
          have h := e_step HX.out HS.out
          exact ⟨k + 1, E + 1, O, by omega, by go_num, by rw [h.1, HE.out], by rw [h.2, HO.out], o1.alloc _, (grown_next G2.out g1).alloc_ _⟩
        case measure => simp [intOf]; omega
      | false =>
        have HS := Lib.hid hs
        have hpv : (x % W + x / W) % 2 = 1 := by have := hs; simp [evB] at this; omega
        clear hs
        go_wp2_with fail
        refine (spotOf_any W H A n c x _ HW.out HXR.out).mono ?_
        rintro e wx ⟨rfl, hb⟩
        replace c0 := cell_keep c0 hgl hb; replace c1 := cell_keep c1 hgl hb
        replace f1 := (hb.frozen (p := ⟨gC, 1, none⟩) hgl).trans f1
        replace ROW2 := Lib.hid (ROW2.out.keep hb)
        replace hgl := lt_keep hgl hb
        have G2 := Lib.hid (HGW.out.trans_below hb)
        clear hb a0 a1 a2 x0
        go_wp2
        go_roundw
        case rel =>
          obtain ⟨o1, g1⟩ := ROW2.out.stored 1 ((O : Int) + 1)
          have h := o_step HX.out HS.out
          exact ⟨k + 1, E, O + 1, by omega, by go_num, by rw [h.1, HE.out], by rw [h.2, HO.out], o1.alloc _, (grown_next G2.out g1).alloc_ _⟩
        case measure => simp [intOf]; omega
    · have HE2 := Lib.hid (show E = eN W (cellsL W H xs) by have h := HE.out; rw [List.take_of_length_le (by have := HL.out; omega)] at h; exact h)
      have HO2 := Lib.hid (show O = oN W (cellsL W H xs) by have h := HO.out; rw [List.take_of_length_le (by have := HL.out; omega)] at h; exact h)
      have HB := Lib.hid (below_of_grown hgw B.out.size (fun g h => by injection h with h; have := HGC.out; omega))
      clear hgw
      go_wp2
      go_quiet (fail)
      go_wp2
      go_ret2
      exact ⟨by rw [← HE2.out, ← HO2.out]; rfl, below_drewN (B.out.trans HB.out) _⟩

end Go.Proofs.Ytbpgkigoboobeaa
