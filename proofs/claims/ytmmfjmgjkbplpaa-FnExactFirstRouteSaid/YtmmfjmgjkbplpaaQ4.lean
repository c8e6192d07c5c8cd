/-
  Plain facts: which cells a search in width reaches; cells picked by a test.
  Plain facts: counts by distance, the first of the greatest distances.
-/
import Derived.Test.YtmmfjmgjkbplpaaQ3
import Derived.Lib.Slices
namespace Go.Proofs.Ytmmfjmgjkbplpaa

theorem visit_from {S : Int → Prop} {d : Int} : ∀ (l far q : List Int), (∀ x ∈ l, S x) → (∀ x ∈ q, S x) → ∀ x ∈ (visit d l (far, q)).2, S x
  | [], _, _, _, h => h
  | y :: t, far, q, hl, h => by
    rw [visit]
    split
    · exact visit_from t _ _ (fun z hz => hl z (List.mem_cons_of_mem _ hz)) (fun z hz => by
        rcases List.mem_append.1 hz with hz | hz
        · exact h z hz
        · simp at hz; subst hz; exact hl _ List.mem_cons_self)
    · exact visit_from t _ _ (fun z hz => hl z (List.mem_cons_of_mem _ hz)) h
theorem bfs_from {S : Int → Prop} {adj : Int → List Int} {N : Nat} {start : Int} (hs : S start) (ha : ∀ x, S x → ∀ y ∈ adj x, S y) : ∀ k : Nat, ∀ x ∈ (bfsTo adj N start k).2, S x
  | 0, x, hx => by simp [bfsTo] at hx; subst hx; exact hs
  | k + 1, x, hx => by
    rw [bfsTo, bfsStep] at hx
    split at hx
    · exact bfs_from hs ha k x hx
    · rename_i c hc
      exact visit_from _ _ _ (ha _ (bfs_from hs ha k _ (List.mem_of_getElem? hc))) (bfs_from hs ha k) x hx
/-- Each place that has a distance has been reached. -/
def Known (far q : List Int) : Prop := ∀ i : Nat, 0 ≤ far.getD i (-1) → (i : Int) ∈ q
theorem visit_known {d : Int} : ∀ (l far q : List Int), (∀ x ∈ l, 0 ≤ x) → Known far q → Known (visit d l (far, q)).1 (visit d l (far, q)).2
  | [], _, _, _, h => h
  | x :: t, far, q, hl, h => by
    have hx := hl x List.mem_cons_self
    rw [visit]
    split
    · refine visit_known t _ _ (fun z hz => hl z (List.mem_cons_of_mem _ hz)) (fun i hi => ?_)
      by_cases e : x.toNat = i
      · rw [show (i : Int) = x by omega]; simp
      · rw [List.getD_eq_getElem?_getD, List.getElem?_set_ne e, ← List.getD_eq_getElem?_getD] at hi
        exact List.mem_append_left _ (h i hi)
    · exact visit_known t _ _ (fun z hz => hl z (List.mem_cons_of_mem _ hz)) h
theorem visit_pre {d : Int} {k : Nat} {x : Int} : ∀ (l far q : List Int), q[k]? = some x → (visit d l (far, q)).2[k]? = some x
  | [], _, _, h => h
  | y :: t, far, q, h => by
    rw [visit]
    split
    · exact visit_pre t _ _ (by
        have : k < q.length := (List.getElem?_eq_some_iff.1 h).1
        rw [List.getElem?_append_left this]; exact h)
    · exact visit_pre t _ _ h
theorem visit_covers {d : Int} (hd : 0 ≤ d + 1) : ∀ (l far q : List Int), (∀ x ∈ l, 0 ≤ x ∧ x < (far.length : Int)) → ∀ y ∈ l, 0 ≤ (visit d l (far, q)).1.getD y.toNat 0
  | [], _, _, _, y, hy => by simp at hy
  | x :: t, far, q, hl, y, hy => by
    have hx := hl x List.mem_cons_self
    rw [visit]
    rcases List.mem_cons.1 hy with rfl | hy
    · split
      · rw [visit_keeps t _ _ (by rw [getD_set_same (by omega)]; exact hd), getD_set_same (by omega)]; exact hd
      · rename_i hn
        rw [visit_keeps t _ _ (by omega)]; omega
    · split
      · exact visit_covers hd t _ _ (fun z hz => by simpa using hl z (List.mem_cons_of_mem _ hz)) y hy
      · exact visit_covers hd t _ _ (fun z hz => hl z (List.mem_cons_of_mem _ hz)) y hy
section
variable {adj : Int → List Int} {N : Nat} {start : Int}
theorem bfs_known (hs : 0 ≤ start ∧ start < N) (ha : ∀ c : Int, 0 ≤ c ∧ c < N → ∀ x ∈ adj c, 0 ≤ x ∧ x < N) : ∀ k : Nat, Known (bfsTo adj N start k).1 (bfsTo adj N start k).2
  | 0 => fun i hi => by
    simp only [bfsTo] at hi ⊢
    by_cases e : start.toNat = i
    · rw [show (i : Int) = start by omega]; simp
    · rw [List.getD_eq_getElem?_getD, List.getElem?_set_ne e, List.getElem?_replicate] at hi
      split at hi <;> simp at hi
  | k + 1 => by
    rw [bfsTo, bfsStep]
    split
    · exact bfs_known hs ha k
    · rename_i c hc
      exact visit_known _ _ _ (fun x hx => (ha c ((bfs_ok hs ha k).range c (List.mem_of_getElem? hc)) x hx).1) (bfs_known hs ha k)
/-- What lies before the queue's head leads nowhere new. -/
theorem bfs_done (hs : 0 ≤ start ∧ start < N) (ha : ∀ c : Int, 0 ≤ c ∧ c < N → ∀ x ∈ adj c, 0 ≤ x ∧ x < N) : ∀ (k j : Nat), j < k → ∀ x, (bfsTo adj N start k).2[j]? = some x → ∀ y ∈ adj x, 0 ≤ (bfsTo adj N start k).1.getD y.toNat 0
  | 0, j, hj, _, _, _, _ => absurd hj (by omega)
  | k + 1, j, hj, x, hx, y, hy => by
    cases hc : (bfsTo adj N start k).2[k]? with
    | none =>
      have e : bfsTo adj N start (k + 1) = bfsTo adj N start k := by rw [bfsTo, bfsStep, hc]
      rw [e] at hx ⊢
      have hj' : j < k := by
        rcases Nat.lt_or_ge j k with h | h
        · exact h
        · obtain rfl : j = k := by omega
          rw [hc] at hx; cases hx
      exact bfs_done hs ha k j hj' x hx y hy
    | some c =>
      have e := bfs_next hc
      have hok := bfs_ok hs ha k
      have hcr := hok.range c (List.mem_of_getElem? hc)
      have hc0 := hok.seen c (List.mem_of_getElem? hc)
      have hkl := (List.getElem?_eq_some_iff.1 hc).1
      rw [e] at hx ⊢
      by_cases hjk : j = k
      · subst hjk
        have hp : (visit ((bfsTo adj N start j).1.getD c.toNat 0) (adj c) (bfsTo adj N start j)).2[j]? = some c := visit_pre (adj c) _ _ hc
        rw [hp] at hx
        injection hx with hx
        subst hx
        exact visit_covers (by omega) (adj c) _ _ (by rw [hok.len]; exact ha c hcr) y hy
      · have hz : (bfsTo adj N start k).2[j]? = some (bfsTo adj N start k).2[j] := List.getElem?_eq_getElem (by omega)
        have hp : (visit ((bfsTo adj N start k).1.getD c.toNat 0) (adj c) (bfsTo adj N start k)).2[j]? = some (bfsTo adj N start k).2[j] := visit_pre (adj c) _ _ hz
        rw [hp] at hx
        injection hx with hx
        have h0 := bfs_done hs ha k j (by omega) x (by rw [hz, hx]) y hy
        have h2 : (visit ((bfsTo adj N start k).1.getD c.toNat 0) (adj c) (bfsTo adj N start k)).1.getD y.toNat 0 = (bfsTo adj N start k).1.getD y.toNat 0 := visit_keeps (adj c) _ _ h0
        rw [h2]; exact h0
theorem bfs_start (hs : 0 ≤ start ∧ start < N) : ∀ k : Nat, (bfsTo adj N start k).1.getD start.toNat 0 = 0
  | 0 => by rw [bfsTo, getD_set_same (by simp; omega)]
  | k + 1 => by
    rw [bfsTo, bfsStep]
    split
    · exact bfs_start hs k
    · rename_i c hc
      have h2 : (visit ((bfsTo adj N start k).1.getD c.toNat 0) (adj c) (bfsTo adj N start k)).1.getD start.toNat 0 = (bfsTo adj N start k).1.getD start.toNat 0 := visit_keeps (adj c) _ _ (by rw [bfs_start hs k]; omega)
      rw [h2]; exact bfs_start hs k
theorem getD_lt {L : List Int} {i : Nat} (h : i < L.length) (a b : Int) : L.getD i a = L.getD i b := by
  rw [List.getD_eq_getElem?_getD, List.getD_eq_getElem?_getD, List.getElem?_eq_getElem h]; rfl
theorem far_len (hs : 0 ≤ start ∧ start < N) (ha : ∀ c : Int, 0 ≤ c ∧ c < N → ∀ x ∈ adj c, 0 ≤ x ∧ x < N) : (farL adj N start).length = N := (bfs_ok hs ha N).len
/-- Whoever is reached reaches on. -/
theorem far_step (hs : 0 ≤ start ∧ start < N) (ha : ∀ c : Int, 0 ≤ c ∧ c < N → ∀ x ∈ adj c, 0 ≤ x ∧ x < N) {x y : Int} (hx : 0 ≤ x) (hf : 0 ≤ (farL adj N start).getD x.toNat (-1)) (hy : y ∈ adj x) : 0 ≤ (farL adj N start).getD y.toNat (-1) := by
  have hq := bfs_known hs ha N x.toNat hf
  rw [Int.toNat_of_nonneg hx] at hq
  obtain ⟨j, hj, hjx⟩ := List.getElem_of_mem hq
  have hql := bfs_q_len hs ha N
  have hxr := (bfs_ok hs ha N).range x hq
  have h := bfs_done hs ha N j (by omega) x (by rw [List.getElem?_eq_getElem hj, hjx]) y hy
  have hyr := ha x hxr y hy
  rw [farL, getD_lt (by rw [(bfs_ok hs ha N).len]; omega) (-1) 0]
  exact h
theorem far_from {S : Int → Prop} (hs : 0 ≤ start ∧ start < N) (ha : ∀ c : Int, 0 ≤ c ∧ c < N → ∀ x ∈ adj c, 0 ≤ x ∧ x < N) (h0 : S start) (hcl : ∀ x, S x → ∀ y ∈ adj x, S y) {i : Nat} (hf : 0 ≤ (farL adj N start).getD i (-1)) : S (i : Int) :=
  bfs_from h0 hcl N _ (bfs_known hs ha N i hf)
theorem far_start (hs : 0 ≤ start ∧ start < N) (ha : ∀ c : Int, 0 ≤ c ∧ c < N → ∀ x ∈ adj c, 0 ≤ x ∧ x < N) : (farL adj N start).getD start.toNat (-1) = 0 := by
  rw [getD_lt (by rw [far_len hs ha]; omega) (-1) 0]; exact bfs_start hs N
end
theorem far_trans {adj : Int → List Int} {N : Nat} {p q : Int} (hp : 0 ≤ p ∧ p < N) (hq : 0 ≤ q ∧ q < N) (ha : ∀ c : Int, 0 ≤ c ∧ c < N → ∀ x ∈ adj c, 0 ≤ x ∧ x < N) (h1 : 0 ≤ (farL adj N p).getD q.toNat (-1)) {r : Nat} (h2 : 0 ≤ (farL adj N q).getD r (-1)) : 0 ≤ (farL adj N p).getD r (-1) := by
  have h := far_from (S := fun y => (0 ≤ y ∧ y < N) ∧ 0 ≤ (farL adj N p).getD y.toNat (-1)) hq ha ⟨hq, h1⟩ (fun x hx y hy => ⟨ha x hx.1 y hy, far_step hp ha hx.1.1 hx.2 hy⟩) h2
  have := h.2
  rwa [Int.toNat_natCast] at this
theorem far_symm {adj : Int → List Int} {N : Nat} {C : Int → Prop} (hC : ∀ x, C x → 0 ≤ x ∧ x < (N : Int)) (hsym : ∀ x y, C x → y ∈ adj x → C y ∧ x ∈ adj y) {p : Int} (hp : C p) (ha : ∀ c : Int, 0 ≤ c ∧ c < N → ∀ x ∈ adj c, 0 ≤ x ∧ x < N) {i : Nat} (hf : 0 ≤ (farL adj N p).getD i (-1)) : C (i : Int) ∧ 0 ≤ (farL adj N (i : Int)).getD p.toNat (-1) := by
  refine far_from (S := fun y => C y ∧ 0 ≤ (farL adj N y).getD p.toNat (-1)) (hC p hp) ha ⟨hp, by rw [far_start (hC p hp) ha]; omega⟩ (fun x hx y hy => ?_) hf
  obtain ⟨hCy, hxy⟩ := hsym x y hx.1 hy
  refine ⟨hCy, ?_⟩
  have h1 : 0 ≤ (farL adj N y).getD x.toNat (-1) := far_step (hC y hCy) ha (hC y hCy).1 (by rw [far_start (hC y hCy) ha]; omega) hxy
  exact far_trans (hC y hCy) (hC x hx.1) ha h1 hx.2

/-! ### Cells picked by a test -/
def selTo (f : Nat → Bool) : Nat → List Int
  | 0 => []
  | k + 1 => if f k then selTo f k ++ [(k : Int)] else selTo f k
theorem selTo_yes {f : Nat → Bool} {k : Nat} (h : f k = true) : selTo f (k + 1) = selTo f k ++ [(k : Int)] := by rw [selTo, if_pos h]
theorem selTo_no {f : Nat → Bool} {k : Nat} (h : f k = false) : selTo f (k + 1) = selTo f k := by rw [selTo, if_neg (by simp [h])]
theorem selTo_len (f : Nat → Bool) : ∀ k, (selTo f k).length ≤ k
  | 0 => Nat.le_refl _
  | k + 1 => by
    have := selTo_len f k
    rw [selTo]; split
    · rw [List.length_append]; simp; omega
    · omega
theorem selTo_congr {f g : Nat → Bool} : ∀ k, (∀ i, i < k → f i = g i) → selTo f k = selTo g k
  | 0, _ => rfl
  | k + 1, h => by rw [selTo, selTo, h k (by omega), selTo_congr k (fun i hi => h i (by omega))]
theorem selTo_stop {f : Nat → Bool} {N : Nat} (h : ∀ i, N ≤ i → f i = false) {k : Nat} (hk : N ≤ k) : selTo f k = selTo f N := by
  induction k with
  | zero => rw [show N = 0 by omega]
  | succ k ih =>
    by_cases e : N = k + 1
    · rw [e]
    · rw [selTo_no (h k (by omega)), ih (by omega)]
theorem selTo_none {f : Nat → Bool} (k : Nat) (h : ∀ i, i < k → f i = false) : selTo f k = [] := by
  rw [selTo_congr (g := fun _ => false) k h]
  induction k with
  | zero => rfl
  | succ k ih => rw [selTo_no rfl, ih (fun i hi => h i (by omega))]
theorem selTo_mem {f : Nat → Bool} {x : Int} : ∀ {k : Nat}, x ∈ selTo f k ↔ ∃ i, i < k ∧ f i = true ∧ x = (i : Int)
  | 0 => by simp [selTo]
  | k + 1 => by
    rw [selTo]
    split
    · rename_i hf
      rw [List.mem_append, selTo_mem]
      constructor
      · rintro (⟨i, hi, h⟩ | h)
        · exact ⟨i, by omega, h⟩
        · exact ⟨k, by omega, hf, by simpa using h⟩
      · rintro ⟨i, hi, h1, h2⟩
        by_cases e : i = k
        · subst e; right; simp [h2]
        · exact .inl ⟨i, by omega, h1, h2⟩
    · rename_i hf
      rw [selTo_mem]
      constructor
      · rintro ⟨i, hi, h⟩; exact ⟨i, by omega, h⟩
      · rintro ⟨i, hi, h1, h2⟩
        by_cases e : i = k
        · subst e; exact absurd h1 hf
        · exact ⟨i, by omega, h1, h2⟩

end Go.Proofs.Ytmmfjmgjkbplpaa

namespace Go.Proofs.Ytmmfjmgjkbplpaa

/-! ### Counts -/
def padTo (l : List Int) (n : Nat) : List Int := l ++ List.replicate (n - l.length) 0
def bump (l : List Int) (i : Nat) : List Int := l.set i (l.getD i 0 + 1)
def cntStep (out : List Int) (x : Int) : List Int := if x < 0 then out else bump (padTo out (x.toNat + 1)) x.toNat
def cntL (L : List Int) : List Int := L.foldl cntStep []
def bumpStep (c : List Int) (x : Int) : List Int := if x < 0 then c else bump c x.toNat
theorem padTo_len (l : List Int) (n : Nat) : (padTo l n).length = max l.length n := by rw [padTo, List.length_append, List.length_replicate]; omega
theorem padTo_self {l : List Int} {n : Nat} (h : n ≤ l.length) : padTo l n = l := by rw [padTo, show n - l.length = 0 by omega]; simp
theorem padTo_nil (n : Nat) : padTo [] n = List.replicate n 0 := by simp [padTo]
theorem padTo_succ {l : List Int} {n : Nat} (h : l.length ≤ n) : padTo l (n + 1) = padTo l n ++ [0] := by
  rw [padTo, padTo, show n + 1 - l.length = (n - l.length) + 1 by omega, List.replicate_succ', List.append_assoc]
theorem padTo_padTo {l : List Int} {m n : Nat} (h : m ≤ n) : padTo (padTo l m) n = padTo l n := by
  rcases Nat.le_total m l.length with h1 | h1
  · rw [padTo_self h1]
  · have e : (padTo l m).length = m := by rw [padTo_len]; omega
    rw [padTo, e, padTo, padTo, List.append_assoc, List.replicate_append_replicate, show m - l.length + (n - m) = n - l.length by omega]
theorem bump_len (l : List Int) (i : Nat) : (bump l i).length = l.length := by rw [bump, List.length_set]
theorem bump_pad {l : List Int} {i n : Nat} (h : i < l.length) : bump (padTo l n) i = padTo (bump l i) n := by
  rw [bump, padTo, padTo, bump_len, List.getD_eq_getElem?_getD, List.getElem?_append_left h, ← List.getD_eq_getElem?_getD, List.set_append_left _ _ h, bump]
theorem cnt_pad {M : Nat} : ∀ (L out : List Int), (∀ x ∈ L, x < M) → out.length ≤ M → L.foldl bumpStep (padTo out M) = padTo (L.foldl cntStep out) M ∧ (L.foldl cntStep out).length ≤ M
  | [], _, _, h => ⟨rfl, h⟩
  | x :: t, out, hL, h => by
    rw [List.foldl_cons, List.foldl_cons]
    have ht := fun y hy => hL y (List.mem_cons_of_mem x hy)
    have hx := hL x List.mem_cons_self
    by_cases hn : x < 0
    · rw [bumpStep, cntStep, if_pos hn, if_pos hn]; exact cnt_pad t out ht h
    · rw [bumpStep, cntStep, if_neg hn, if_neg hn]
      have e : bump (padTo out M) x.toNat = padTo (bump (padTo out (x.toNat + 1)) x.toNat) M := by
        rw [← bump_pad (by rw [padTo_len]; omega), padTo_padTo (by omega)]
      rw [e]
      exact cnt_pad t _ ht (by rw [bump_len, padTo_len]; omega)
theorem cnt_len : ∀ (L out : List Int) (m : Nat), out.length ≤ m → (∃ x ∈ L, x.toNat + 1 = m ∧ 0 ≤ x) → (∀ x ∈ L, x < m) → (L.foldl cntStep out).length = m
  | [], _, _, _, h, _ => by obtain ⟨x, hx, _⟩ := h; simp at hx
  | x :: t, out, m, ho, h, hL => by
    have ht := fun y hy => hL y (List.mem_cons_of_mem x hy)
    have hx := hL x List.mem_cons_self
    rw [List.foldl_cons]
    obtain ⟨y, hy, e, h0⟩ := h
    have ho2 : (cntStep out x).length ≤ m := by
      rw [cntStep]; split
      · exact ho
      · rw [bump_len, padTo_len]; omega
    by_cases hm : ∃ z ∈ t, z.toNat + 1 = m ∧ 0 ≤ z
    · exact cnt_len t _ m ho2 hm ht
    · have exy : y = x := by
        rcases List.mem_cons.1 hy with h1 | h1
        · exact h1
        · exact absurd ⟨y, h1, e, h0⟩ hm
      subst exy
      have e2 : (cntStep out y).length = m := by rw [cntStep, if_neg (by omega), bump_len, padTo_len]; omega
      have h3 := (cnt_pad (M := m) t (cntStep out y) ht (by omega)).1
      rw [padTo_self (by omega)] at h3
      have h4 : ∀ (l c : List Int), (l.foldl bumpStep c).length = c.length := by
        intro l
        induction l with
        | nil => intro c; rfl
        | cons z l ih => intro c; rw [List.foldl_cons, ih, bumpStep]; split; rfl; rw [bump_len]
      have h5 := (cnt_pad (M := m) t (cntStep out y) ht (by omega)).2
      have h6 : ∀ (l c : List Int), c.length ≤ (l.foldl cntStep c).length := by
        intro l
        induction l with
        | nil => intro c; exact Nat.le_refl _
        | cons z l ih =>
          intro c
          rw [List.foldl_cons]
          refine Nat.le_trans ?_ (ih _)
          rw [cntStep]; split
          · exact Nat.le_refl _
          · rw [bump_len, padTo_len]; omega
      have := h6 t (cntStep out y)
      omega
theorem bumpStep_len (L c : List Int) : (L.foldl bumpStep c).length = c.length := by
  induction L generalizing c with
  | nil => rfl
  | cons z l ih => rw [List.foldl_cons, ih, bumpStep]; split; rfl; rw [bump_len]
theorem bump_minus (m : Nat) (c : List Int) : (List.replicate m (-1)).foldl bumpStep c = c := by
  induction m with
  | zero => rfl
  | succ m ih => rw [List.replicate_succ, List.foldl_cons, bumpStep, if_pos (by omega), ih]
theorem take_foldl {α β : Type} (f : β → α → β) {L : List α} {k : Nat} {x : α} (h : L[k]? = some x) (z : β) : (L.take (k + 1)).foldl f z = f ((L.take k).foldl f z) x := by
  rw [List.take_add_one, h, List.foldl_append]; rfl
/-- Both counts are the same where the greatest distance is met. -/
theorem cnt_both {L : List Int} {g : Nat} (hm : (g : Int) ∈ L) (hle : ∀ x ∈ L, x ≤ (g : Int)) (m : Nat) : (L ++ List.replicate m (-1)).foldl bumpStep (List.replicate (g + 1) 0) = cntL L ∧ (cntL L).length = g + 1 := by
  have hlt : ∀ x ∈ L, x < ((g + 1 : Nat) : Int) := fun x hx => by have := hle x hx; omega
  have h1 := cnt_pad (M := g + 1) L [] hlt (by simp)
  have h2 := cnt_len L [] (g + 1) (by simp) ⟨_, hm, by omega, by omega⟩ hlt
  rw [List.foldl_append, bump_minus, ← padTo_nil, h1.1, padTo_self (by omega)]
  exact ⟨rfl, h2⟩

/-! ### The first of the greatest -/
def mostTo (L : List Int) : Nat → Int
  | 0 => -1
  | k + 1 => if 0 ≤ L.getD k (-1) ∧ (mostTo L k < 0 ∨ L.getD (mostTo L k).toNat (-1) < L.getD k (-1)) then (k : Int) else mostTo L k
/-- What holds of the first of the greatest among the first k. -/
def MostOk (L : List Int) (k : Nat) (b : Int) : Prop := (b = -1 ∧ ∀ i, i < k → L.getD i (-1) < 0) ∨ ∃ j : Nat, b = (j : Int) ∧ j < k ∧ 0 ≤ L.getD j (-1) ∧ (∀ i, i < k → L.getD i (-1) ≤ L.getD j (-1)) ∧ ∀ i, i < j → L.getD i (-1) < L.getD j (-1)
theorem mostTo_ok (L : List Int) : ∀ k, MostOk L k (mostTo L k)
  | 0 => .inl ⟨rfl, fun i hi => absurd hi (by omega)⟩
  | k + 1 => by
    have h := mostTo_ok L k
    rw [mostTo]
    rcases h with ⟨e, h⟩ | ⟨j, e, hj, h0, hle, hlt⟩
    · rw [e]
      by_cases hk : 0 ≤ L.getD k (-1)
      · rw [if_pos ⟨hk, .inl (by omega)⟩]
        refine .inr ⟨k, rfl, by omega, hk, fun i hi => ?_, fun i hi => by have := h i hi; omega⟩
        rcases Nat.lt_or_ge i k with h1 | h1
        · have := h i h1; omega
        · rw [show i = k by omega]; exact Int.le_refl _
      · rw [if_neg (fun h => hk h.1)]
        refine .inl ⟨rfl, fun i hi => ?_⟩
        rcases Nat.lt_or_ge i k with h1 | h1
        · exact h i h1
        · rw [show i = k by omega]; omega
    · rw [e, Int.toNat_natCast]
      by_cases hk : L.getD j (-1) < L.getD k (-1)
      · rw [if_pos ⟨by omega, .inr hk⟩]
        refine .inr ⟨k, rfl, by omega, by omega, fun i hi => ?_, fun i hi => by have := hle i hi; omega⟩
        rcases Nat.lt_or_ge i k with h1 | h1
        · have := hle i h1; omega
        · rw [show i = k by omega]; exact Int.le_refl _
      · rw [if_neg (fun h => by rcases h.2 with h | h <;> omega)]
        refine .inr ⟨j, rfl, by omega, h0, fun i hi => ?_, hlt⟩
        rcases Nat.lt_or_ge i k with h1 | h1
        · exact hle i h1
        · rw [show i = k by omega]; omega
/-- The first of the greatest, and this. -/
structure IsMost (L : List Int) (j : Nat) : Prop where
  lt : j < L.length
  nn : 0 ≤ L.getD j (-1)
  le : ∀ i, L.getD i (-1) ≤ L.getD j (-1)
  first : ∀ i, i < j → L.getD i (-1) < L.getD j (-1)
theorem most_is {L : List Int} {k : Nat} (hk : k < L.length) (h0 : 0 ≤ L.getD k (-1)) : ∃ j : Nat, mostTo L L.length = (j : Int) ∧ IsMost L j := by
  rcases mostTo_ok L L.length with ⟨_, h⟩ | ⟨j, e, hj, hn, hle, hlt⟩
  · have := h k hk; omega
  · refine ⟨j, e, hj, hn, fun i => ?_, hlt⟩
    rcases Nat.lt_or_ge i L.length with h1 | h1
    · exact hle i h1
    · have : L.getD i (-1) = -1 := by rw [List.getD_eq_getElem?_getD, List.getElem?_eq_none h1]; rfl
      omega
theorem max_of {L : List Int} {g : Int} (hne : L ≠ []) (hm : g ∈ L) (hle : ∀ x ∈ L, x ≤ g) : Go.Lib.maxOf L = g := by
  have key : ∀ (l : List Int) (z : Int), (∀ x ∈ l, x ≤ g) → z ≤ g → (g ∈ l ∨ z = g) → l.foldl max z = g := by
    intro l
    induction l with
    | nil => intro z _ _ h; rcases h with h | h; simp at h; exact h
    | cons y t ih =>
      intro z hl hz h
      rw [List.foldl_cons]
      have hy := hl y List.mem_cons_self
      refine ih _ (fun x hx => hl x (List.mem_cons_of_mem _ hx)) (by omega) ?_
      rcases h with h | h
      · rcases List.mem_cons.1 h with h | h
        · right; omega
        · exact .inl h
      · right; omega
  cases L with
  | nil => exact absurd rfl hne
  | cons y t => exact key _ _ hle (hle y List.mem_cons_self) (.inl hm)
theorem idx_of {L : List Int} {j : Nat} {g : Int} (hj : j < L.length) (h : L.getD j 0 = g) (hne : ∀ i, i < j → L.getD i 0 ≠ g) : Go.Lib.idxOf L g = (j : Int) := by
  have := Go.Lib.idxOf_hit L L.length j g hj (Nat.le_refl _) h hne
  rwa [List.take_length] at this

end Go.Proofs.Ytmmfjmgjkbplpaa
