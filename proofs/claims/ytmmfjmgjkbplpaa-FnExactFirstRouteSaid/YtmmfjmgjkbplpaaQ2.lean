/-
  Plain functions and facts: distances by a search in width.
-/
import Derived.Test.YtmmfjmgjkbplpaaPure
namespace Go.Proofs.Ytmmfjmgjkbplpaa

def visit (d : Int) : List Int → List Int × List Int → List Int × List Int
  | [], s => s
  | x :: t, (far, q) => if far.getD x.toNat 0 < 0 then visit d t (far.set x.toNat (d + 1), q ++ [x]) else visit d t (far, q)
def bfsStep (adj : Int → List Int) (s : List Int × List Int) (k : Nat) : List Int × List Int :=
  match s.2[k]? with
  | none => s
  | some c => visit (s.1.getD c.toNat 0) (adj c) s
def bfsTo (adj : Int → List Int) (N : Nat) (start : Int) : Nat → List Int × List Int
  | 0 => ((List.replicate N (-1)).set start.toNat 0, [start])
  | k + 1 => bfsStep adj (bfsTo adj N start k) k
theorem visit_len (d : Int) : ∀ (l : List Int) (s : List Int × List Int), (visit d l s).1.length = s.1.length
  | [], _ => rfl
  | x :: t, (far, q) => by
    rw [visit]
    split
    · rw [visit_len d t]; simp
    · rw [visit_len d t]
/-- What holds of far and queue. -/
structure BfsOk (N : Nat) (B : Int) (far q : List Int) : Prop where
  len : far.length = N
  range : ∀ x ∈ q, 0 ≤ x ∧ x < N
  lo : ∀ (i : Nat) (v : Int), far[i]? = some v → -1 ≤ v ∧ v ≤ B
  seen : ∀ x ∈ q, 0 ≤ far.getD x.toNat 0
  nodup : q.Nodup
theorem getD_set_same {far : List Int} {i : Nat} {v : Int} (h : i < far.length) : (far.set i v).getD i 0 = v := by
  simp [List.getD_eq_getElem?_getD, h]
theorem getD_set_ne {far : List Int} {i j : Nat} {v : Int} (h : i ≠ j) : (far.set i v).getD j 0 = far.getD j 0 := by
  simp [List.getD_eq_getElem?_getD, h]
theorem BfsOk.push {N : Nat} {B d x : Int} {far q : List Int} (h : BfsOk N B far q) (hx : 0 ≤ x ∧ x < N) (hd : 0 ≤ d + 1 ∧ d + 1 ≤ B) (hf : far.getD x.toNat 0 < 0) : BfsOk N B (far.set x.toNat (d + 1)) (q ++ [x]) where
  len := by simp [h.len]
  range := fun y hy => by
    rcases List.mem_append.1 hy with hy | hy
    · exact h.range y hy
    · simp at hy; subst hy; exact hx
  lo := fun i v hv => by
    rw [List.getElem?_set] at hv
    split at hv
    · split at hv
      · injection hv with hv; omega
      · cases hv
    · exact h.lo i v hv
  seen := fun y hy => by
    by_cases e : x.toNat = y.toNat
    · rw [← e, getD_set_same (by rw [h.len]; omega)]; exact hd.1
    · rw [getD_set_ne e]
      rcases List.mem_append.1 hy with hy | hy
      · exact h.seen y hy
      · simp at hy; subst hy; exact absurd rfl e
  nodup := by
    rw [List.nodup_append]
    refine ⟨h.nodup, by simp, fun y hy z hz e => ?_⟩
    simp at hz; subst hz; subst e
    have := h.seen _ hy; omega
theorem BfsOk.mono {N : Nat} {B B' : Int} {far q : List Int} (h : BfsOk N B far q) (hB : B ≤ B') : BfsOk N B' far q :=
  ⟨h.len, h.range, fun i v hv => by have := h.lo i v hv; omega, h.seen, h.nodup⟩
theorem visit_ok {N : Nat} {B d : Int} (hd : 0 ≤ d + 1 ∧ d + 1 ≤ B) : ∀ (l far q : List Int), (∀ x ∈ l, 0 ≤ x ∧ x < N) → BfsOk N B far q → BfsOk N B (visit d l (far, q)).1 (visit d l (far, q)).2
  | [], far, q, _, h => h
  | x :: t, far, q, hl, h => by
    rw [visit]
    split
    · rename_i hf
      exact visit_ok hd t _ _ (fun y hy => hl y (List.mem_cons_of_mem _ hy)) (h.push (hl x List.mem_cons_self) hd hf)
    · exact visit_ok hd t _ _ (fun y hy => hl y (List.mem_cons_of_mem _ hy)) h
theorem bfs_ok {adj : Int → List Int} {N : Nat} {start : Int} (hs : 0 ≤ start ∧ start < N) (ha : ∀ c : Int, 0 ≤ c ∧ c < N → ∀ x ∈ adj c, 0 ≤ x ∧ x < N) : ∀ k : Nat, BfsOk N k (bfsTo adj N start k).1 (bfsTo adj N start k).2
  | 0 => {
      len := by simp [bfsTo]
      range := fun x hx => by simp [bfsTo] at hx; subst hx; exact hs
      lo := fun i v hv => by
        simp only [bfsTo, List.getElem?_set, List.length_replicate] at hv
        split at hv
        · split at hv
          · injection hv with hv; omega
          · cases hv
        · rw [List.getElem?_replicate] at hv
          split at hv
          · injection hv with hv; omega
          · cases hv
      seen := fun x hx => by
        simp [bfsTo] at hx; subst hx
        rw [bfsTo, getD_set_same (by simp; omega)]; omega
      nodup := by simp [bfsTo] }
  | k + 1 => by
    have h := bfs_ok hs ha k
    rw [bfsTo, bfsStep]
    split
    · exact h.mono (by omega)
    · rename_i c hc
      have hm := List.mem_of_getElem? hc
      have hr := h.range c hm
      have h0 := h.seen c hm
      have hlt : c.toNat < (bfsTo adj N start k).1.length := by rw [h.len]; omega
      have h1 := h.lo c.toNat ((bfsTo adj N start k).1.getD c.toNat 0) (by rw [List.getD_eq_getElem?_getD, List.getElem?_eq_getElem hlt]; rfl)
      exact visit_ok ⟨by omega, by omega⟩ _ _ _ (ha c hr) (h.mono (by omega))
theorem nodup_sub : ∀ (l m : List Nat), l.Nodup → (∀ x ∈ l, x ∈ m) → l.length ≤ m.length
  | [], _, _, _ => by simp
  | x :: l, m, hn, h => by
    rw [List.nodup_cons] at hn
    have hx := h x List.mem_cons_self
    have := nodup_sub l (m.erase x) hn.2 (fun y hy => (List.mem_erase_of_ne (fun e => hn.1 (by rw [← e]; exact hy))).2 (h y (List.mem_cons_of_mem _ hy)))
    rw [List.length_erase_of_mem hx] at this
    have := List.length_pos_of_mem hx
    simp only [List.length_cons]; omega
theorem nodup_len {N : Nat} {q : List Int} (hn : q.Nodup) (hr : ∀ x ∈ q, 0 ≤ x ∧ x < N) : q.length ≤ N := by
  have h : (q.map Int.toNat).Nodup := by
    rw [List.Nodup, List.pairwise_map]
    exact hn.imp_of_mem fun {a b} ha hb hne => by have := hr a ha; have := hr b hb; omega
  have h2 : ∀ x ∈ q.map Int.toNat, x ∈ List.range N := fun x hx => by
    obtain ⟨y, hy, rfl⟩ := List.mem_map.1 hx
    have := hr y hy; simp; omega
  have := nodup_sub _ _ h h2
  simpa using this
theorem bfs_q_len {adj : Int → List Int} {N : Nat} {start : Int} (hs : 0 ≤ start ∧ start < N) (ha : ∀ c : Int, 0 ≤ c ∧ c < N → ∀ x ∈ adj c, 0 ≤ x ∧ x < N) (k : Nat) : (bfsTo adj N start k).2.length ≤ N :=
  nodup_len (bfs_ok hs ha k).nodup (bfs_ok hs ha k).range
/-- Behind the queue's end nothing turns. -/
theorem bfs_stays {adj : Int → List Int} {N : Nat} {start : Int} {k : Nat} (h : (bfsTo adj N start k).2.length ≤ k) : ∀ j, k ≤ j → bfsTo adj N start j = bfsTo adj N start k := by
  intro j hj
  induction j with
  | zero => obtain rfl : k = 0 := by omega
            rfl
  | succ j ih =>
    by_cases e : k = j + 1
    · rw [e]
    · have ih := ih (by omega)
      rw [bfsTo, ih, bfsStep, List.getElem?_eq_none (by omega)]
def farL (adj : Int → List Int) (N : Nat) (start : Int) : List Int := (bfsTo adj N start N).1
theorem far_of_end {adj : Int → List Int} {N : Nat} {start : Int} (hs : 0 ≤ start ∧ start < N) (ha : ∀ c : Int, 0 ≤ c ∧ c < N → ∀ x ∈ adj c, 0 ≤ x ∧ x < N) {k : Nat} (h : (bfsTo adj N start k).2.length ≤ k) : (bfsTo adj N start k).1 = farL adj N start := by
  rcases Nat.le_total k N with hk | hk
  · rw [farL, bfs_stays h N hk]
  · rw [farL, bfs_stays (bfs_q_len hs ha N) k hk]
/-! ### On more places -/
theorem visit_pad (d : Int) (M : Nat) : ∀ (l far q : List Int), (∀ x ∈ l, 0 ≤ x ∧ x < (far.length : Int)) → visit d l (far ++ List.replicate M (-1), q) = ((visit d l (far, q)).1 ++ List.replicate M (-1), (visit d l (far, q)).2)
  | [], _, _, _ => rfl
  | x :: t, far, q, h => by
    have hx := h x List.mem_cons_self
    have e : (far ++ List.replicate M (-1)).getD x.toNat 0 = far.getD x.toNat 0 := by
      rw [List.getD_eq_getElem?_getD, List.getD_eq_getElem?_getD, List.getElem?_append_left (by omega)]
    have ht := fun y hy => h y (List.mem_cons_of_mem x hy)
    rw [visit, visit, e]
    split
    · rw [List.set_append_left _ _ (by omega), visit_pad d M t _ _ (by simpa using ht)]
    · rw [visit_pad d M t _ _ ht]
theorem bfs_pad {adj : Int → List Int} {N M : Nat} {start : Int} (hs : 0 ≤ start ∧ start < N) (ha : ∀ c : Int, 0 ≤ c ∧ c < N → ∀ x ∈ adj c, 0 ≤ x ∧ x < N) : ∀ k : Nat, bfsTo adj (N + M) start k = ((bfsTo adj N start k).1 ++ List.replicate M (-1), (bfsTo adj N start k).2)
  | 0 => by
    simp only [bfsTo]
    rw [← List.replicate_append_replicate, List.set_append_left _ _ (by simp; omega)]
  | k + 1 => by
    have h := bfs_ok hs ha k
    rw [bfsTo, bfsTo, bfs_pad hs ha k, bfsStep, bfsStep]
    split
    · rename_i e; simp only at e; simp [e]
    · rename_i c e
      simp only at e
      simp only [e]
      have hr := h.range c (List.mem_of_getElem? e)
      rw [List.getD_eq_getElem?_getD, List.getElem?_append_left (by rw [h.len]; omega), ← List.getD_eq_getElem?_getD]
      exact visit_pad _ M _ _ _ (by rw [h.len]; exact ha c hr)
theorem far_pad {adj : Int → List Int} {N M : Nat} {start : Int} (hs : 0 ≤ start ∧ start < N) (ha : ∀ c : Int, 0 ≤ c ∧ c < N → ∀ x ∈ adj c, 0 ≤ x ∧ x < N) : farL adj (N + M) start = farL adj N start ++ List.replicate M (-1) := by
  rw [farL, bfs_pad hs ha, bfs_stays (bfs_q_len hs ha N) (N + M) (by omega)]; rfl

end Go.Proofs.Ytmmfjmgjkbplpaa
