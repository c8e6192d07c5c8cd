/-
  Contracts: tails turned, and where they can be turned.
-/
import Derived.Test.YtmecomcokmffbaaZ3
import Derived.Test.YtmecomcokmffbaaK9a
import Derived.Test.YtmecomcokmffbaaShelf
namespace Go.Proofs.Ytmecomcokmffbaa
open Go.RowKit

theorem setAllZ {E : TypeId} {lo g n c : Nat} : ∀ (ys : List Int) (o : Nat) {w : World} {xs : List Int}, OwnI E w lo (some ⟨g, 0, none⟩) n c xs → o + ys.length ≤ n →
    OwnI E (w.setCells g o (ys.map (Value.int .i64))) lo (some ⟨g, 0, none⟩) n c (xs.take o ++ ys ++ xs.drop (o + ys.length)) ∧ w.grownBy (w.setCells g o (ys.map (Value.int .i64))) (some g)
  | [], o, w, xs, h, _ => ⟨by simpa [World.setCells] using h, grown_refl _ _⟩
  | y :: ys, o, w, xs, h, ho => by
    have hl := h.len
    simp only [List.length_cons] at ho
    obtain ⟨h1, g1⟩ := h.stored o y
    obtain ⟨h2, g2⟩ := setAllZ ys (o + 1) h1 (by omega)
    refine ⟨?_, grown_next g1 g2⟩
    have e : (xs.set o y).take (o + 1) ++ ys ++ (xs.set o y).drop (o + 1 + ys.length) = xs.take o ++ (y :: ys) ++ xs.drop (o + (ys.length + 1)) := by
      rw [List.take_add_one, List.getElem?_set_self (by omega), List.take_set_of_le (Nat.le_refl _), List.drop_set_of_lt (by omega)]
      simp [show o + 1 + ys.length = o + (ys.length + 1) by omega]
    rw [e] at h2
    exact h2
/-- A list whose tail from k on is in the other order. -/
def turnL (ps : List Int) (k : Nat) : List Int := ps.take k ++ (ps.drop k).reverse
theorem turnL_len (ps : List Int) (k : Nat) : (turnL ps k).length = ps.length := by simp [turnL]; omega
theorem turnL_mem {ps : List Int} {k : Nat} {x : Int} : x ∈ turnL ps k ↔ x ∈ ps := by
  rw [turnL, List.mem_append, List.mem_reverse, ← List.mem_append, List.take_append_drop]
/-- Where a tail can be turned: from 1 to the last but one. -/
def tailsTo (W a b : Int) (ps : List Int) (n : Nat) : List Int := ((List.range' 1 n).filter (canB W a b ps)).map fun k : Nat => (k : Int)
def tailsL (W a b : Int) (ps : List Int) : List Int := tailsTo W a b ps (ps.length - 2)
theorem tails_yes {W a b : Int} {ps : List Int} {n : Nat} (h : canB W a b ps (n + 1) = true) : tailsTo W a b ps (n + 1) = tailsTo W a b ps n ++ [((n + 1 : Nat) : Int)] := by
  rw [tailsTo, List.range'_concat, List.filter_append, List.map_append, show 1 + 1 * n = n + 1 by omega]; simp [h, tailsTo]
theorem tails_no {W a b : Int} {ps : List Int} {n : Nat} (h : canB W a b ps (n + 1) = false) : tailsTo W a b ps (n + 1) = tailsTo W a b ps n := by
  rw [tailsTo, List.range'_concat, List.filter_append, List.map_append, show 1 + 1 * n = n + 1 by omega]; simp [h, tailsTo]
theorem tailsTo_len (W a b : Int) (ps : List Int) (n : Nat) : (tailsTo W a b ps n).length ≤ n := by
  rw [tailsTo, List.length_map]
  have := List.length_filter_le (canB W a b ps) (List.range' 1 n)
  rwa [List.length_range'] at this

set_option maxRecDepth 100000 in
set_option maxHeartbeats 2000000 in
theorem turnedAt_any (A2 : Option Addr) (m c2 : Nat) (ps : List Int) (k : Nat) (w : World) (hp : Rd w A2 m ps) (hk : k < m) (hm : m ≤ 1000) :
    Calls Try.prog 50 #[.slice A2 m c2, .int .i64 (k : Int)] w fun e w' => ∃ A' c', e = .returned (.slice A' m c') ∧ OwnI 3 w' w.heap.size A' m c' (turnL ps k) ∧ Below w.heap.size w w' := by
  obtain ⟨bb, oo, x, rfl, lz, -, -⟩ := hp.at_ (k := 0) (by omega)
  have HPL := Lib.hid hp.1
  have hcs : ∀ j, j < ps.length → w.cell? ⟨bb, oo + j, none⟩ = some (.int .i64 (ps.getD j 0)) := fun j hj => by
    have hx : ps[j]? = some ps[j] := List.getElem?_eq_getElem hj
    have := hp.cell_ hx
    rw [Addr.add_lit] at this
    rw [List.getD_eq_getElem?_getD, hx]; exact this
  have HC := Lib.hid hcs
  have HK := Lib.hid hk
  clear hcs hp
  go_enter Try.func50, Try.ntmps50
  go_wp2_with fail
  refine (Try.slices_Clone_int bb oo m c2 ps w (by have := HPL.out; omega) (by omega) HC.out).mono ?_
  rintro e wv ⟨v', rfl, own, -, hb⟩
  rw [List.take_of_length_le (by have := HPL.out; omega)] at own
  obtain ⟨A9, c9, rfl, own9⟩ := own_form own
  obtain ⟨g, rfl, hg1, hg2⟩ := own9.some_ (k := 0) (by omega)
  have hcap := own9.cap
  have HO := Lib.hid own9
  have B := Lib.hid hb
  have hck : ¬ c9 = k := by omega
  have hkc : (k : Int) ≤ (c9 : Int) := by omega
  have hkm : (k : Int) ≤ (m : Int) := by omega
  have hmc : (m : Int) ≤ (c9 : Int) := by omega
  have hk2 : k ≤ m := by omega
  clear own own9 hb
  go_wp2_with fail
  (try simp only [Nat.zero_add])
  refine (Try.slices_Reverse_int_cells g k (m - k) (c9 - k) (ps.drop k) _ (by rw [List.length_drop]; have := HPL.out; omega) (by omega) (fun j hj => ?_) (fun j _ => HO.out.frozen _)).mono ?_
  · rw [List.length_drop] at hj
    have hx : ps[k + j]? = some ps[k + j] := List.getElem?_eq_getElem (by omega)
    rw [List.getD_eq_getElem?_getD, List.getElem?_drop, hx]
    exact HO.out.cell hx
  rintro e wz ⟨rfl, q, rfl⟩
  have hl9 : ((ps.drop k).take (m - k)).reverse = (ps.drop k).reverse := by rw [List.take_of_length_le (by rw [List.length_drop]; have := HPL.out; omega)]
  rw [hl9]
  obtain ⟨h2, g2⟩ := setAllZ (ps.drop k).reverse k (HO.out.drewN q) (by rw [List.length_reverse, List.length_drop]; have := HPL.out; omega)
  have e9 : ps.drop (k + (ps.drop k).reverse.length) = [] := List.drop_of_length_le (by rw [List.length_reverse, List.length_drop]; omega)
  rw [e9, List.append_nil] at h2
  have O2 := Lib.hid (show OwnI 3 ((wv.drewN q).setCells g k ((ps.drop k).reverse.map (Value.int .i64))) w.heap.size (some ⟨g, 0, none⟩) m c9 (turnL ps k) from h2)
  have B2 := Lib.hid (show Below w.heap.size w ((wv.drewN q).setCells g k ((ps.drop k).reverse.map (Value.int .i64))) from (below_drewN B.out q).trans (below_of_grown g2 (show w.heap.size ≤ (wv.drewN q).heap.size from B.out.size) (fun g' h => by injection h with h; omega)))
  obtain ⟨W9, hW9⟩ : ∃ W9, W9 = (wv.drewN q).setCells g k ((ps.drop k).reverse.map (Value.int .i64)) := ⟨_, rfl⟩
  rw [← hW9] at O2 B2 ⊢
  clear hW9 h2 g2 e9 hl9
  go_wp2
  go_ret
  exact ⟨_, _, rfl, O2.out, B2.out⟩

end Go.Proofs.Ytmecomcokmffbaa
