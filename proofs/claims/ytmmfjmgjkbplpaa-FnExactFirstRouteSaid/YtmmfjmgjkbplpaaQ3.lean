/-
  Plain facts: a search in width, cell by cell.
-/
import Derived.Test.YtmmfjmgjkbplpaaQ1
import Derived.Test.YtmmfjmgjkbplpaaQ2
namespace Go.Proofs.Ytmmfjmgjkbplpaa

theorem visit_append (d : Int) : ∀ (l m : List Int) (s : List Int × List Int), visit d (l ++ m) s = visit d m (visit d l s)
  | [], _, _ => rfl
  | x :: t, m, (far, q) => by
    rw [List.cons_append, visit, visit]
    split <;> exact visit_append d t m _
theorem visit_one {d x : Int} {far q : List Int} : visit d [x] (far, q) = if far.getD x.toNat 0 < 0 then (far.set x.toNat (d + 1), q ++ [x]) else (far, q) := by
  rw [visit]; split <;> rfl
theorem visit_keeps {d : Int} {i : Nat} : ∀ (l : List Int) (far q : List Int), 0 ≤ far.getD i 0 → (visit d l (far, q)).1.getD i 0 = far.getD i 0
  | [], _, _, _ => rfl
  | x :: t, far, q, h => by
    rw [visit]
    split
    · rename_i hx
      have hne : x.toNat ≠ i := fun e => by rw [e] at hx; omega
      rw [visit_keeps t _ _ (by rw [getD_set_ne hne]; exact h), getD_set_ne hne]
    · exact visit_keeps t _ _ h
theorem visit_len_le {d : Int} : ∀ (l : List Int) (far q : List Int), q.length ≤ (visit d l (far, q)).2.length
  | [], _, _ => Nat.le_refl _
  | x :: t, far, q => by
    rw [visit]
    split
    · exact Nat.le_trans (by simp) (visit_len_le t _ _)
    · exact visit_len_le t _ _
theorem bfs_next {adj : Int → List Int} {N k : Nat} {start c : Int} (h : (bfsTo adj N start k).2[k]? = some c) : bfsTo adj N start (k + 1) = visit ((bfsTo adj N start k).1.getD c.toNat 0) (adj c) (bfsTo adj N start k) := by
  rw [bfsTo, bfsStep, h]
theorem BfsOk.at_ {N : Nat} {B : Int} {far q : List Int} (h : BfsOk N B far q) {i : Nat} (hi : i < N) : ∃ v, far[i]? = some v ∧ far.getD i 0 = v ∧ -1 ≤ v ∧ v ≤ B := by
  have hl : i < far.length := by rw [h.len]; exact hi
  refine ⟨far[i], List.getElem?_eq_getElem hl, by rw [List.getD_eq_getElem?_getD, List.getElem?_eq_getElem hl]; rfl, ?_⟩
  exact h.lo i _ (List.getElem?_eq_getElem hl)
theorem minus_set {N k : Nat} (h : k < N) : (List.replicate k (-1 : Int) ++ List.replicate (N - k) 0).set k (-1) = List.replicate (k + 1) (-1) ++ List.replicate (N - (k + 1)) 0 := by
  rw [List.set_append_right _ _ (by simp), List.length_replicate, Nat.sub_self]
  obtain ⟨m, hm⟩ : ∃ m, N - k = m + 1 := ⟨N - k - 1, by omega⟩
  rw [hm, List.replicate_succ, List.set_cons_zero, show N - (k + 1) = m by omega, show k + 1 = k + 1 from rfl, List.replicate_succ', List.append_assoc]
  rfl

theorem visit_cells {cells : List Int} {d : Int} : ∀ (l far q : List Int), (∀ x ∈ l, x ∈ cells) → (∀ x ∈ q, x ∈ cells) → ∀ x ∈ (visit d l (far, q)).2, x ∈ cells
  | [], _, _, _, h => h
  | y :: t, far, q, hl, h => by
    rw [visit]
    split
    · exact visit_cells t _ _ (fun z hz => hl z (List.mem_cons_of_mem _ hz)) (fun z hz => by
        rcases List.mem_append.1 hz with hz | hz
        · exact h z hz
        · simp at hz; subst hz; exact hl _ List.mem_cons_self)
    · exact visit_cells t _ _ (fun z hz => hl z (List.mem_cons_of_mem _ hz)) h
theorem bfs_cells {cells : List Int} {adj : Int → List Int} {N : Nat} {start : Int} (hs : start ∈ cells) (ha : ∀ x, ∀ y ∈ adj x, y ∈ cells) : ∀ k : Nat, ∀ x ∈ (bfsTo adj N start k).2, x ∈ cells
  | 0, x, hx => by simp [bfsTo] at hx; subst hx; exact hs
  | k + 1, x, hx => by
    rw [bfsTo, bfsStep] at hx
    split at hx
    · exact bfs_cells hs ha k x hx
    · exact visit_cells _ _ _ (ha _) (bfs_cells hs ha k) x hx

end Go.Proofs.Ytmmfjmgjkbplpaa
