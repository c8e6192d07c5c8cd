/-
  Plain functions and facts: the cells of a board in order.
-/
import Derived.Test.YtdbfhcgifilhkaaPure
namespace Go.Proofs.Ytdbfhcgifilhkaa

def upTo (n : Nat) : List Int := (List.range n).map fun i : Nat => (i : Int)
theorem upTo_succ (n : Nat) : upTo (n + 1) = upTo n ++ [(n : Int)] := by simp [upTo, List.range_succ]
theorem upTo_mem {n : Nat} {x : Int} : x ∈ upTo n ↔ 0 ≤ x ∧ x < n := by
  simp only [upTo, List.mem_map, List.mem_range]
  constructor
  · rintro ⟨i, hi, rfl⟩; omega
  · intro h; exact ⟨x.toNat, by omega, by omega⟩
theorem upTo_pairwise (n : Nat) : (upTo n).Pairwise (· < ·) := by
  rw [upTo, List.pairwise_map]
  exact List.pairwise_lt_range.imp (fun h => by omega)
/-- The cells that are there below k, increasing. -/
def cellsTo (W H : Int) (hs : List Int) (k : Nat) : List Int := (upTo k).filter (hasB W H hs)
def cellsL (W H : Int) (hs : List Int) : List Int := cellsTo W H hs (W * H).toNat
theorem cellsTo_yes {W H : Int} {hs : List Int} {k : Nat} (h : hasB W H hs k = true) : cellsTo W H hs (k + 1) = cellsTo W H hs k ++ [(k : Int)] := by
  rw [cellsTo, upTo_succ, List.filter_append, List.filter_cons, if_pos h]; rfl
theorem cellsTo_no {W H : Int} {hs : List Int} {k : Nat} (h : hasB W H hs k = false) : cellsTo W H hs (k + 1) = cellsTo W H hs k := by
  rw [cellsTo, upTo_succ, List.filter_append, List.filter_cons, if_neg (by simp [h])]; simp [cellsTo]
theorem cellsTo_len {W H : Int} {hs : List Int} (k : Nat) : (cellsTo W H hs k).length ≤ k := by
  have := List.length_filter_le (hasB W H hs) (upTo k)
  simpa [cellsTo, upTo] using this
theorem cellsL_mem {W H x : Int} {hs : List Int} : x ∈ cellsL W H hs ↔ hasB W H hs x = true := by
  rw [cellsL, cellsTo, List.mem_filter, upTo_mem]
  constructor
  · exact fun h => h.2
  · intro h; have := hasB_iff.1 h; exact ⟨by omega, h⟩
theorem cellsL_pairwise (W H : Int) (hs : List Int) : (cellsL W H hs).Pairwise (· < ·) := (upTo_pairwise _).filter _


theorem filter_not_mem_len : ∀ (hs l : List Int), hs.Pairwise (· < ·) → l.Nodup → (∀ x ∈ hs, x ∈ l) → (l.filter fun x => !hs.contains x).length + hs.length = l.length
  | [], l, _, _, _ => by simp
  | h :: hs, l, hp, hd, hm => by
    rw [List.pairwise_cons] at hp
    have ih := filter_not_mem_len hs l hp.2 hd (fun x hx => hm x (List.mem_cons_of_mem _ hx))
    have hh : h ∉ hs := fun hx => absurd (hp.1 h hx) (by omega)
    have hl : h ∈ l.filter fun x => !hs.contains x := by
      rw [List.mem_filter]; exact ⟨hm h (List.mem_cons_self), by simpa using hh⟩
    have e : (l.filter fun x => !(h :: hs).contains x) = (l.filter fun x => !hs.contains x).filter fun x => !(x == h) := by
      rw [List.filter_filter]
      apply List.filter_congr
      intro x _
      rw [List.contains_cons, Bool.not_or]
    have hd2 : (l.filter fun x => !hs.contains x).Nodup := hd.filter _
    have e2 : ((l.filter fun x => !hs.contains x).filter fun x => !(x == h)) = (l.filter fun x => !hs.contains x).erase h := by
      rw [hd2.erase_eq_filter]; rfl
    rw [e, e2, List.length_erase_of_mem hl]
    have : 0 < (l.filter fun x => !hs.contains x).length := List.length_pos_of_mem hl
    simp only [List.length_cons]
    omega
theorem cellsL_len {W H : Int} {hs : List Int} (hg : goodB W H hs = true) : ((cellsL W H hs).length : Int) = W * H - hs.length := by
  obtain ⟨hW, hH, hlen, hri⟩ := goodB_iff.1 hg
  have hN := cells_le hW hH
  have e : cellsL W H hs = (upTo (W * H).toNat).filter fun x => !hs.contains x := by
    rw [cellsL, cellsTo]
    apply List.filter_congr
    intro x hx
    have := upTo_mem.1 hx
    simp [hasB]; omega
  have h := filter_not_mem_len hs (upTo (W * H).toNat) (risesB_pairwise hri) ((upTo_pairwise _).imp (fun h => by omega)) (fun x hx => by
    have := risesB_mem hri x hx
    exact upTo_mem.2 ⟨by omega, by omega⟩)
  have hl : (upTo (W * H).toNat).length = (W * H).toNat := by simp [upTo]
  rw [e]; omega

end Go.Proofs.Ytdbfhcgifilhkaa
