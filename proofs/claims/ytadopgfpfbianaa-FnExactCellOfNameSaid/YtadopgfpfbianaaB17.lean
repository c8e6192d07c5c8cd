/-
  CellOfName: the plain side. The first cell with the name, read off the name's two bytes.
-/
import Derived.Test.YtadopgfpfbianaaB16
namespace Go.Proofs.Ytadopgfpfbianaa
open Go.RowKit

def colOf (s : ByteArray) : Int := ((s.data.getD 0 0).toNat : Int) - 97
def lineOf (s : ByteArray) : Int := ((s.data.getD 1 0).toNat : Int) - 49
def byName (W H : Int) (xs : List Int) (s : ByteArray) : Int :=
  if s.size = 2 ∧ (0 ≤ colOf s ∧ colOf s < W) ∧ hasB W H xs (lineOf s * W + colOf s) = true then lineOf s * W + colOf s else -1

theorem nameS_parts {x y : Int} (hx : 0 ≤ x ∧ x ≤ 7) (hy : 0 ≤ y ∧ y ≤ 7) : (nameS x y).size = 2 ∧ colOf (nameS x y) = x ∧ lineOf (nameS x y) = y := by
  have h1 : x = 0 ∨ x = 1 ∨ x = 2 ∨ x = 3 ∨ x = 4 ∨ x = 5 ∨ x = 6 ∨ x = 7 := by omega
  have h2 : y = 0 ∨ y = 1 ∨ y = 2 ∨ y = 3 ∨ y = 4 ∨ y = 5 ∨ y = 6 ∨ y = 7 := by omega
  refine ⟨rfl, ?_, ?_⟩
  · rcases h1 with rfl | rfl | rfl | rfl | rfl | rfl | rfl | rfl <;> rfl
  · rcases h2 with rfl | rfl | rfl | rfl | rfl | rfl | rfl | rfl <;> rfl

theorem name_of_parts {s : ByteArray} (h : s.size = 2) (hx : 0 ≤ colOf s) (hy : 0 ≤ lineOf s) : nameS (colOf s) (lineOf s) = s := by
  obtain ⟨⟨l⟩⟩ := s
  match l, h with
  | [a, b], _ =>
    have ha : (97 : Int) ≤ (a.toNat : Int) := by have : (0 : Int) ≤ (a.toNat : Int) - 97 := hx; omega
    have hb : (49 : Int) ≤ (b.toNat : Int) := by have : (0 : Int) ≤ (b.toNat : Int) - 49 := hy; omega
    show nameS ((a.toNat : Int) - 97) ((b.toNat : Int) - 49) = _
    rw [nameS, show 97 + ((a.toNat : Int) - 97).toNat = a.toNat by omega, show 49 + ((b.toNat : Int) - 49).toNat = b.toNat by omega]
    simp

theorem find_none {W : Int} {s : ByteArray} : ∀ {l : List Int}, (∀ q ∈ l, nameS (q % W) (q / W) ≠ s) → findL W s l = -1
  | [], _ => rfl
  | q :: t, h => by rw [findL, if_neg (h q (by simp))]; exact find_none fun q' hq' => h q' (by simp [hq'])
theorem find_some {W p : Int} {s : ByteArray} : ∀ {l : List Int}, p ∈ l → nameS (p % W) (p / W) = s → (∀ q ∈ l, nameS (q % W) (q / W) = s → q = p) → findL W s l = p
  | [], h, _, _ => by cases h
  | q :: t, h, hp, hu => by
    by_cases hq : nameS (q % W) (q / W) = s
    · rw [findL, if_pos hq]; exact hu q (by simp) hq
    · rw [findL, if_neg hq]
      refine find_some ?_ hp fun q' hq' => hu q' (by simp [hq'])
      rcases List.mem_cons.1 h with rfl | h
      · exact absurd hp hq
      · exact h

theorem cell_parts {W H q : Int} {xs : List Int} (hg : goodB W H xs = true) (hq : hasB W H xs q = true) : (0 ≤ q % W ∧ q % W < W ∧ q % W ≤ 7) ∧ (0 ≤ q / W ∧ q / W ≤ 7) ∧ q / W * W + q % W = q := by
  obtain ⟨_, hW, hH, hq1, hN, _⟩ := hasV_facts (show hasV W H xs q = true by rw [hasV, hg, hq]; rfl)
  have h1 := mod_bd (c := q) hW
  have h2 := Int.emod_lt_of_pos q (show 0 < W by omega)
  have h3 := Int.emod_nonneg q (show W ≠ 0 by omega)
  refine ⟨⟨h3, h2, by omega⟩, div7 hW hH hq1, ?_⟩
  have := Int.emod_add_mul_ediv q W
  rw [Int.mul_comm]; omega

theorem find_byName {W H : Int} {xs : List Int} {s : ByteArray} (hg : goodB W H xs = true) : findL W s (cellsL W H xs) = byName W H xs s := by
  by_cases h : s.size = 2 ∧ (0 ≤ colOf s ∧ colOf s < W) ∧ hasB W H xs (lineOf s * W + colOf s) = true
  · obtain ⟨h2, hc, hh⟩ := h
    obtain ⟨hx, hy, he⟩ := cell_parts hg hh
    have e1 : (lineOf s * W + colOf s) % W = colOf s := by
      rw [Int.add_comm, Int.add_mul_emod_self_right]; exact Int.emod_eq_of_lt hc.1 hc.2
    have e2 : (lineOf s * W + colOf s) / W = lineOf s := by
      rw [Int.add_comm, Int.add_mul_ediv_right _ _ (by omega), Int.ediv_eq_zero_of_lt hc.1 hc.2]; omega
    rw [byName, if_pos ⟨h2, hc, hh⟩]
    refine find_some (cellsL_mem.2 hh) ?_ fun q hq hn => ?_
    · rw [e1, e2]; exact name_of_parts h2 hc.1 (by rw [← e2]; exact hy.1)
    · obtain ⟨hx', hy', he'⟩ := cell_parts hg (cellsL_mem.1 hq)
      obtain ⟨_, p1, p2⟩ := nameS_parts (x := q % W) (y := q / W) ⟨hx'.1, hx'.2.2⟩ hy'
      rw [hn] at p1 p2
      rw [p1, p2]; exact he'.symm
  · rw [byName, if_neg h]
    refine find_none fun q hq hn => h ?_
    have hb := cellsL_mem.1 hq
    obtain ⟨hx', hy', he'⟩ := cell_parts hg hb
    obtain ⟨p0, p1, p2⟩ := nameS_parts (x := q % W) (y := q / W) ⟨hx'.1, hx'.2.2⟩ hy'
    rw [hn] at p0 p1 p2
    refine ⟨p0, ⟨by omega, by omega⟩, ?_⟩
    rw [p1, p2, he']; exact hb

end Go.Proofs.Ytadopgfpfbianaa
