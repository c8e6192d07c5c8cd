/-
  Memory words: a row of the call's own in the library's sort's words.
-/
import Derived.Test.YtdbfhcgifilhkaaMem2
import Derived.Shelf.GgSortFunc.InsertionK
namespace Go.Proofs.Ytdbfhcgifilhkaa
open Go.RowKit Go.Lib Go.Sort Go.Shelf

/-! ### A row of the call's own in the sort's words -/
section
variable {α : Type} [Inhabited α] {enc : α → List Value} {k : Nat} {E : TypeId} {w : World} {lo g n c : Nat} {xs : List α}
theorem flat_flatK (hk : ∀ x, (enc x).length = k) (xs : List α) {t : Nat} (h : t < xs.length * k) : (xs.flatMap enc)[t]? = some ((flatK enc k xs.toArray)[t]!) := by
  have k0 : 0 < k := by
    rcases Nat.eq_zero_or_pos k with e | e
    · subst e; simp at h
    · exact e
  have hi : t / k < xs.length := Nat.div_lt_of_lt_mul (by rw [Nat.mul_comm]; exact h)
  have hj : t % k < k := Nat.mod_lt _ k0
  have hx : xs[t / k]? = some xs[t / k] := List.getElem?_eq_getElem hi
  have h1 := flat_at hk xs hx hj
  rw [show t / k * k + t % k = t by rw [Nat.mul_comm]; exact Nat.div_add_mod t k] at h1
  rw [h1, get_flatK enc k xs.toArray t (by simpa using h)]
  have e : xs.toArray[t / k]! = xs[t / k] := by rw [getElem!_pos xs.toArray (t / k) (by simpa using hi)]; simp
  rw [e, List.getElem?_eq_getElem (by rw [hk]; exact hj), getElem!_pos (enc xs[t / k]) (t % k) (by rw [hk]; exact hj)]
theorem OwnK.holds (hk : ∀ x, (enc x).length = k) (h : OwnK enc k E w lo (some ⟨g, 0, none⟩) n c xs) : HoldsK enc k w g 0 xs.toArray := by
  intro t ht
  rw [size_flatK] at ht
  have ht' : t < xs.length * k := by simpa using ht
  rw [Nat.zero_add]
  refine ⟨?_, h.frozen t⟩
  rw [World.ownsRow.cellAt h.2 t (by rw [← h.1]; exact ht'), flat_flatK hk xs ht']
  rfl
theorem OwnK.sorted (hk : ∀ x, (enc x).length = k) (h : OwnK enc k E w lo (some ⟨g, 0, none⟩) n c xs) (d : Array α) (hd : d.size = n) (m : Nat) (os : Array Obj) :
    OwnK enc k E (sortWorldK enc k w g 0 m d os) lo (some ⟨g, 0, none⟩) n c d.toList ∧ w.grownBy (sortWorldK enc k w g 0 m d os) (some g) := by
  obtain ⟨hl, hx, hr⟩ := h
  rcases hr with ⟨hv, _⟩ | ⟨g', cap, cur, hv, hlo, hg, hnc, hm, hcs, htake⟩
  · injection hv with h1; cases h1
  · injection hv with h1 h2 h3
    injection h1 with h1
    injection h1 with h1
    subst h1 h3
    have hglt := (Array.getElem?_eq_some_iff.1 hg).1
    have hheap : (sortWorldK enc k w g 0 m d os).heap = w.heap.modify g (onCells (putCells id 0 (flatK enc k d))) ++ os := rfl
    have hg' : (sortWorldK enc k w g 0 m d os).heap[g]? = some (.cells (putCells id 0 (flatK enc k d) cur) E (0, 0)) := by
      rw [hheap, Array.getElem?_append_left (by simpa using hglt), Array.getElem?_modify, if_pos rfl, hg]
      rfl
    refine ⟨⟨by simp [hd], by rw [flat_len hk]; simp [hd], .inr ⟨g, c, _, rfl, hlo, hg', hnc, hm, by simp [putCells, hcs], ?_⟩⟩, ⟨rfl, rfl, rfl, by rw [hheap]; simp, fun i hi hne => ?_⟩⟩
    · apply List.ext_getElem?
      intro t
      rw [List.getElem?_take]
      by_cases ht : t < n * k
      · have hdk : t < d.toList.length * k := by simpa [hd] using ht
        rw [if_pos ht, flat_flatK hk d.toList hdk]
        have hc : t < cur.size := by rw [hcs]; exact Nat.lt_of_lt_of_le ht (Nat.mul_le_mul_right k hnc)
        simp only [putCells, Array.getElem?_toList, Array.getElem?_mapIdx, Array.getElem?_eq_getElem hc, Option.map_some, size_flatK, hd]
        rw [if_pos ⟨by omega, by omega⟩]
        simp
      · rw [if_neg ht, List.getElem?_eq_none (by rw [flat_len hk]; simp [hd]; omega)]
    · rw [hheap, Array.getElem?_append_left (by simpa using hi), Array.getElem?_modify, if_neg (fun e => hne (by rw [e]))]
end

end Go.Proofs.Ytdbfhcgifilhkaa
