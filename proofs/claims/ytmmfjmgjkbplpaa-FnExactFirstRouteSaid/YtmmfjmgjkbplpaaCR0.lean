/-
  Pure: routes counted.
-/
import Derived.Test.YtmmfjmgjkbplpaaCP0
import Derived.Test.YtmmfjmgjkbplpaaQ6
namespace Go.Proofs.Ytmmfjmgjkbplpaa
open Go.RowKit

def fv (D : List Int) (x : Int) : Int := D.getD x.toNat (-1)
/-- Of a row, what leads nearer. -/
def nearA (adj : Int → List Int) (D : List Int) (c : Int) : List Int := (adj c).filter fun y => decide (fv D y < fv D c)
theorem partW_same {adj nadj : Int → List Int} {F G : Int → Int} {P R : Int → Bool} {y : Int} : ∀ {cells : List Int}, (∀ c ∈ cells, (if P c && (nadj c).contains y then F c else 0) = if R c && (adj c).contains y then G c else 0) → partW cells nadj P F y = partW cells adj R G y
  | [], _ => rfl
  | c :: t, h => by rw [partW_cons, partW_cons, h c List.mem_cons_self, partW_same (fun d hd => h d (List.mem_cons_of_mem _ hd))]
theorem partW_ne {adj : Int → List Int} {P : Int → Bool} {F : Int → Int} {y : Int} : ∀ {cells : List Int}, partW cells adj P F y ≠ 0 → ∃ c ∈ cells, y ∈ adj c ∧ F c ≠ 0
  | [], h => absurd rfl h
  | c :: t, h => by
    rw [partW_cons] at h
    by_cases h2 : partW t adj P F y = 0
    · rw [h2] at h
      by_cases h3 : (P c && (adj c).contains y) = true
      · rw [if_pos h3] at h
        rw [Bool.and_eq_true] at h3
        exact ⟨c, List.mem_cons_self, List.contains_iff_mem.1 h3.2, fun e => h (by rw [e]; rfl)⟩
      · rw [if_neg h3] at h; exact absurd rfl h
    · obtain ⟨d, hd, h3⟩ := partW_ne h2
      exact ⟨d, List.mem_cons_of_mem _ hd, h3⟩

/-- What a board gives: cells, in bounds, and leaps there and back. -/
structure Gr (cells : List Int) (adj : Int → List Int) (N : Nat) : Prop where
  bd : ∀ x ∈ cells, 0 ≤ x ∧ x < (N : Int)
  cl : ∀ x, ∀ y ∈ adj x, y ∈ cells
  sym : ∀ x ∈ cells, ∀ y ∈ adj x, x ∈ adj y
section
variable {cells : List Int} {adj : Int → List Int} {N : Nat} {s t : Int}
theorem Gr.ha (g : Gr cells adj N) : ∀ c : Int, 0 ≤ c ∧ c < N → ∀ x ∈ adj c, 0 ≤ x ∧ x < N := fun c _ x hx => g.bd x (g.cl c x hx)
theorem Gr.tri (g : Gr cells adj N) (hs : s ∈ cells) {x y : Int} (hx : x ∈ cells) (hy : y ∈ adj x) (hf : 0 ≤ fv (farL adj N s) x) : 0 ≤ fv (farL adj N s) y ∧ fv (farL adj N s) y ≤ fv (farL adj N s) x + 1 :=
  ⟨far_step (g.bd s hs) g.ha (g.bd x hx).1 hf hy, far_tri (g.bd s hs) g.ha (g.bd x hx).1 hf hy⟩
theorem Gr.zero (g : Gr cells adj N) (hs : s ∈ cells) : fv (farL adj N s) s = 0 := far_start (g.bd s hs) g.ha
theorem Gr.lo (g : Gr cells adj N) (hs : s ∈ cells) (x : Int) : -1 ≤ fv (farL adj N s) x ∧ fv (farL adj N s) x ≤ N := by
  unfold fv
  have ok := bfs_ok (adj := adj) (g.bd s hs) g.ha N
  by_cases h : x.toNat < (farL adj N s).length
  · rw [List.getD_eq_getElem?_getD, List.getElem?_eq_getElem h]
    exact ok.lo _ _ (List.getElem?_eq_getElem h)
  · rw [List.getD_eq_getElem?_getD, List.getElem?_eq_none (by omega)]
    show (-1 : Int) ≤ -1 ∧ (-1 : Int) ≤ N
    omega
/-- A path of k leaps. -/
theorem Gr.ways_le (g : Gr cells adj N) (hs : s ∈ cells) : ∀ (k : Nat) (c : Int), waysK cells adj s k c ≠ 0 → 0 ≤ fv (farL adj N s) c ∧ fv (farL adj N s) c ≤ k
  | 0, c, h => by
    rw [waysK] at h
    have e : c = s := Classical.byContradiction fun e => h (by rw [if_neg e])
    subst e
    rw [g.zero hs]; omega
  | k + 1, c, h => by
    rw [waysK, stepW] at h
    obtain ⟨x, hx, hc, h2⟩ := partW_ne h
    have h3 := g.ways_le hs k x h2
    have h4 := g.tri hs hx hc h3.1
    omega
theorem Gr.ways_ge (g : Gr cells adj N) (ht : t ∈ cells) (hf : 0 ≤ fv (farL adj N t) s) : ∀ (k : Nat) (c : Int), waysK cells adj s k c ≠ 0 → 0 ≤ fv (farL adj N t) c ∧ fv (farL adj N t) s - k ≤ fv (farL adj N t) c
  | 0, c, h => by
    rw [waysK] at h
    have e : c = s := Classical.byContradiction fun e => h (by rw [if_neg e])
    subst e
    omega
  | k + 1, c, h => by
    rw [waysK, stepW] at h
    obtain ⟨x, hx, hc, h2⟩ := partW_ne h
    have h3 := g.ways_ge ht hf k x h2
    have h4 := g.tri ht hx hc h3.1
    have h5 := g.tri ht (g.cl x c hc) (g.sym x hx c hc) h4.1
    omega
/-- The leaps that lead nearer make just the routes. -/
theorem Gr.near_ways (g : Gr cells adj N) (ht : t ∈ cells) (hf : 0 ≤ fv (farL adj N t) s) : ∀ (k : Nat) (y : Int), y ∈ cells → 0 ≤ fv (farL adj N t) y → fv (farL adj N t) y = fv (farL adj N t) s - k →
    waysK cells (nearA adj (farL adj N t)) s k y = waysK cells adj s k y
  | 0, _, _, _, _ => rfl
  | k + 1, y, hy, h0, he => by
    rw [waysK, waysK, stepW, stepW]
    refine partW_same fun c hc => ?_
    simp only [Bool.true_and]
    by_cases hm : y ∈ adj c
    · have h1 := g.tri ht hy (g.sym c hc y hm) h0
      have h2 := g.tri ht hc hm h1.1
      rw [if_pos (List.contains_iff_mem.2 hm)]
      by_cases hlt : fv (farL adj N t) y < fv (farL adj N t) c
      · rw [if_pos (List.contains_iff_mem.2 (show y ∈ nearA adj (farL adj N t) c from List.mem_filter.2 ⟨hm, decide_eq_true hlt⟩))]
        exact g.near_ways ht hf k c hc h1.1 (by omega)
      · rw [if_neg (show ¬ (nearA adj (farL adj N t) c).contains y = true from fun h => hlt (of_decide_eq_true (List.mem_filter.1 (List.contains_iff_mem.1 h)).2))]
        symm
        refine Classical.byContradiction fun hne => ?_
        have h3 := g.ways_ge ht hf k c hne
        omega
    · rw [if_neg (show ¬ (nearA adj (farL adj N t) c).contains y = true from fun h => hm (List.mem_filter.1 (List.contains_iff_mem.1 h)).1), if_neg (show ¬ (adj c).contains y = true from fun h => hm (List.contains_iff_mem.1 h))]
/-- Distances there and back are the same. -/
theorem Gr.back_le (g : Gr cells adj N) (hs : s ∈ cells) (ht : t ∈ cells) : ∀ (n : Nat) (y : Int), y ∈ cells → fv (farL adj N s) y = n → 0 ≤ fv (farL adj N t) y → 0 ≤ fv (farL adj N t) s ∧ fv (farL adj N t) s ≤ fv (farL adj N t) y + n
  | n, y, hy, hn, h0 => by
    rcases far_pred (g.bd s hs) g.ha (g.bd y hy).1 (show 0 ≤ (farL adj N s).getD y.toNat (-1) by have : fv (farL adj N s) y = n := hn; unfold fv at this; omega) with e | ⟨x, hxr, hx0, hyx, he⟩
    · subst e; omega
    · have hn' : (farL adj N s).getD y.toNat (-1) = n := hn
      have hxc : x ∈ cells := Classical.byContradiction fun h => by
        have h9 := far_from (S := fun z => z ∈ cells) (g.bd s hs) g.ha hs (fun z _ w hw => g.cl z w hw) hx0
        rw [Int.toNat_of_nonneg hxr.1] at h9
        exact h h9
      have h1 := g.tri ht hy (g.sym x hxc y hyx) h0
      obtain ⟨m, rfl⟩ : ∃ m, n = m + 1 := ⟨n - 1, by omega⟩
      have h2 := g.back_le hs ht m x hxc (show (farL adj N s).getD x.toNat (-1) = m by omega) h1.1
      omega
theorem Gr.far_comm (g : Gr cells adj N) (hs : s ∈ cells) (ht : t ∈ cells) (hf : 0 ≤ fv (farL adj N s) t) : fv (farL adj N t) s = fv (farL adj N s) t := by
  have h1 := g.back_le hs ht (fv (farL adj N s) t).toNat t ht (by omega) (by rw [g.zero ht]; omega)
  have h2 := g.back_le ht hs (fv (farL adj N t) s).toNat s hs (by omega) (by rw [g.zero hs]; omega)
  have h3 := g.zero hs
  have h4 := g.zero ht
  omega
/-- So the program's count is the count of the paths that have just so many leaps as the distance. -/
theorem Gr.routes (g : Gr cells adj N) (hs : s ∈ cells) (ht : t ∈ cells) (hf : 0 ≤ fv (farL adj N s) t) :
    waysK cells (nearA adj (farL adj N t)) s (fv (farL adj N s) t).toNat t = waysK cells adj s (fv (farL adj N s) t).toNat t := by
  have h1 := g.far_comm hs ht hf
  have h2 := g.zero ht
  exact g.near_ways ht (by omega) _ t ht (by omega) (by omega)

/-! ### Level by level -/
def lvW (cells : List Int) (adj : Int → List Int) (D : List Int) (s : Int) (d : Nat) (y : Int) : Int := if 0 ≤ fv D y ∧ fv D y ≤ d then waysK cells adj s (fv D y).toNat y else 0
/-- Within round d: what the cells for which P holds have brought. -/
def rdW (cells : List Int) (adj : Int → List Int) (D : List Int) (s : Int) (d : Nat) (P : Int → Bool) (y : Int) : Int := lvW cells adj D s d y + if fv D y = d + 1 then partW cells adj P (lvW cells adj D s d) y else 0
theorem Gr.lv_next (g : Gr cells adj N) (hs : s ∈ cells) (d : Nat) (y : Int) : rdW cells adj (farL adj N s) s d (fun c => decide (fv (farL adj N s) c = d)) y = lvW cells adj (farL adj N s) s (d + 1) y := by
  unfold rdW
  by_cases h : fv (farL adj N s) y = d + 1
  · rw [if_pos h, lvW, if_neg (by omega), lvW, if_pos (by omega), h, show ((d : Int) + 1).toNat = d + 1 by omega, waysK, stepW, Int.zero_add]
    refine partW_same fun c hc => ?_
    simp only [Bool.true_and]
    by_cases hm : y ∈ adj c
    · rw [List.contains_iff_mem.2 hm, if_pos rfl, Bool.and_true]
      by_cases e : fv (farL adj N s) c = d
      · rw [if_pos (by simpa using e), lvW, if_pos (by omega), e, Int.toNat_natCast]
      · rw [if_neg (by simpa using e)]
        symm
        refine Classical.byContradiction fun hne => ?_
        have h3 := g.ways_le hs d c hne
        have h4 := g.tri hs hc hm h3.1
        omega
    · rw [show (adj c).contains y = false by rw [← Bool.not_eq_true, List.contains_iff_mem]; exact hm]
      simp
  · rw [if_neg h, Int.add_zero]
    unfold lvW
    by_cases h2 : 0 ≤ fv (farL adj N s) y ∧ fv (farL adj N s) y ≤ d
    · rw [if_pos h2, if_pos (by omega)]
    · rw [if_neg h2, if_neg (by omega)]
theorem Gr.lv_zero (g : Gr cells adj N) (hs : s ∈ cells) (y : Int) : lvW cells adj (farL adj N s) s 0 y = if y = s then 1 else 0 := by
  unfold lvW
  by_cases e : y = s
  · subst e
    rw [g.zero hs, if_pos (by omega), show (0 : Int).toNat = 0 from rfl, waysK, if_pos rfl]
  · rw [if_neg e]
    by_cases h : 0 ≤ fv (farL adj N s) y ∧ fv (farL adj N s) y ≤ ((0 : Nat) : Int)
    · rw [if_pos h, show (fv (farL adj N s) y).toNat = 0 by omega, waysK, if_neg e]
    · rw [if_neg h]
theorem rdW_none {D : List Int} {d : Nat} {P : Int → Bool} (h : ∀ c ∈ cells, P c = false) (y : Int) : rdW cells adj D s d P y = lvW cells adj D s d y := by
  unfold rdW
  rw [partW_none adj _ y cells h]
  split <;> omega
theorem rdW_congr {D : List Int} {d : Nat} {P R : Int → Bool} (h : ∀ c ∈ cells, P c = R c) (y : Int) : rdW cells adj D s d P y = rdW cells adj D s d R y := by
  unfold rdW; rw [partW_congr (adj := adj) (F := lvW cells adj D s d) (y := y) h]
/-- What a row's first j cells have brought where R holds: each of them x. -/
def addP (B : Int → Int) (R : Int → Bool) (row : List Int) (x : Int) (j : Nat) (y : Int) : Int := B y + if R y && (row.take j).contains y then x else 0
theorem addP_zero (B : Int → Int) (R : Int → Bool) (row : List Int) (x : Int) : addP B R row x 0 = B := by funext y; simp [addP]
theorem addP_no {B : Int → Int} {R : Int → Bool} {row : List Int} {x z : Int} {j : Nat} (hz : row[j]? = some z) (hR : R z = false) : addP B R row x (j + 1) = addP B R row x j := by
  funext y
  unfold addP
  rw [List.take_add_one, hz]
  by_cases e : y = z
  · subst e; rw [hR]; simp
  · simp [e]
theorem addP_yes {B : Int → Int} {R : Int → Bool} {row : List Int} {x z : Int} {j : Nat} (hn : row.Nodup) (hz : row[j]? = some z) (hR : R z = true) : addP B R row x (j + 1) = fun y => if y = z then addP B R row x j z + x else addP B R row x j y := by
  have h := addRow_next (B := fun _ => 0) (x := x) hn hz
  funext y
  have h1 := congrFun h y
  unfold addRow at h1
  unfold addP
  by_cases e : y = z
  · subst e
    rw [if_pos rfl] at h1 ⊢
    rw [hR, Bool.true_and, Bool.true_and]
    omega
  · rw [if_neg e] at h1 ⊢
    cases hy : R y with
    | false => simp
    | true => rw [Bool.true_and, Bool.true_and]; omega
theorem addP_all {D : List Int} {d : Nat} {P R : Int → Bool} {c : Int} {row : List Int} {j : Nat} (hrow : row = adj c) (h : row.length ≤ j) (hn : cells.Nodup) (hc : c ∈ cells) (hP : P c = false) (hR : R c = true) (ho : ∀ x ∈ cells, x ≠ c → R x = P x) (y : Int) :
    addP (rdW cells adj D s d P) (fun z => decide (fv D z = d + 1)) row (lvW cells adj D s d c) j y = rdW cells adj D s d R y := by
  unfold addP rdW
  rw [List.take_of_length_le h, hrow]
  show _ + (if (decide (fv D y = (d : Int) + 1) && (adj c).contains y) = true then lvW cells adj D s d c else 0) = _
  by_cases e : fv D y = d + 1
  · rw [if_pos e, if_pos e, partW_more hn hc hP hR ho, decide_eq_true e, Bool.true_and]; omega
  · rw [if_neg e, if_neg e, decide_eq_false e]; simp
end

end Go.Proofs.Ytmmfjmgjkbplpaa
