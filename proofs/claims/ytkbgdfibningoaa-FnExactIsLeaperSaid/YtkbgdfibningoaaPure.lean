/-
  Plain functions and facts on numbers and lists: what leapers and boards are. No program is named here.
-/
namespace Go.Proofs.Ytkbgdfibningoaa

def sizeB (n : Int) : Bool := decide (1 ≤ n ∧ n ≤ 8)
def leaperB (a b : Int) : Bool := decide (0 ≤ a ∧ a ≤ b ∧ 1 ≤ b ∧ b ≤ 5)
def inB (n lo hi : Int) : Bool := decide (lo ≤ n ∧ n ≤ hi)
/-- Strictly increasing, all above lo and below hi. -/
def risesB (lo hi : Int) : List Int → Bool
  | [] => true
  | h :: t => decide (lo < h ∧ h < hi) && risesB h hi t
def goodB (W H : Int) (hs : List Int) : Bool := sizeB W && sizeB H && decide ((hs.length : Int) < W * H) && risesB (-1) (W * H) hs

theorem sizeB_iff {n : Int} : sizeB n = true ↔ 1 ≤ n ∧ n ≤ 8 := by simp [sizeB]
theorem leaperB_iff {a b : Int} : leaperB a b = true ↔ 0 ≤ a ∧ a ≤ b ∧ 1 ≤ b ∧ b ≤ 5 := by simp [leaperB]
theorem inB_iff {n lo hi : Int} : inB n lo hi = true ↔ lo ≤ n ∧ n ≤ hi := by simp [inB]
theorem inB_false {n lo hi : Int} : inB n lo hi = false ↔ n < lo ∨ hi < n := by simp [inB]; omega
theorem sizeB_false {n : Int} : sizeB n = false ↔ n < 1 ∨ 8 < n := by simp [sizeB]; omega
theorem goodB_iff {W H : Int} {hs : List Int} : goodB W H hs = true ↔ (1 ≤ W ∧ W ≤ 8) ∧ (1 ≤ H ∧ H ≤ 8) ∧ (hs.length : Int) < W * H ∧ risesB (-1) (W * H) hs = true := by
  simp [goodB, sizeB, and_assoc]

theorem risesB_mono {lo lo' hi : Int} {hs : List Int} (h : risesB lo hi hs = true) (hl : lo' ≤ lo) : risesB lo' hi hs = true := by
  cases hs with
  | nil => rfl
  | cons a t => simp [risesB] at h ⊢; exact ⟨by omega, h.2⟩
theorem risesB_mem {lo hi : Int} {hs : List Int} (h : risesB lo hi hs = true) : ∀ x ∈ hs, lo < x ∧ x < hi := by
  induction hs generalizing lo with
  | nil => intro x hx; cases hx
  | cons a t ih =>
    simp [risesB] at h
    intro x hx
    rcases List.mem_cons.1 hx with rfl | hx
    · exact h.1
    · have := ih h.2 x hx; omega
theorem risesB_pairwise {lo hi : Int} {hs : List Int} (h : risesB lo hi hs = true) : hs.Pairwise (· < ·) := by
  induction hs generalizing lo with
  | nil => exact List.Pairwise.nil
  | cons a t ih =>
    simp [risesB] at h
    exact List.Pairwise.cons (fun x hx => (risesB_mem h.2 x hx).1) (ih h.2)
theorem risesB_of {lo hi : Int} {hs : List Int} (hp : hs.Pairwise (· < ·)) (hm : ∀ x ∈ hs, lo < x ∧ x < hi) : risesB lo hi hs = true := by
  induction hs generalizing lo with
  | nil => rfl
  | cons a t ih =>
    rw [List.pairwise_cons] at hp
    simp only [risesB, Bool.and_eq_true, decide_eq_true_eq]
    exact ⟨hm a (List.mem_cons_self), ih hp.2 (fun x hx => ⟨hp.1 x hx, (hm x (List.mem_cons_of_mem _ hx)).2⟩)⟩
theorem drop_cons_of {xs : List Int} {k : Nat} {x : Int} (hx : xs[k]? = some x) : xs.drop k = x :: xs.drop (k + 1) := by
  have hl : k < xs.length := by
    rcases Nat.lt_or_ge k xs.length with h | h
    · exact h
    · rw [List.getElem?_eq_none h] at hx; cases hx
  rw [List.getElem?_eq_getElem hl] at hx
  rw [List.drop_eq_getElem_cons hl]; injection hx with hx; rw [hx]

/-- Both sizes are small: so is the number of cells. -/
theorem cells_le {W H : Int} (hW : 1 ≤ W ∧ W ≤ 8) (hH : 1 ≤ H ∧ H ≤ 8) : 1 ≤ W * H ∧ W * H ≤ 64 := by
  obtain ⟨h1, h2⟩ := hW
  obtain ⟨h3, h4⟩ := hH
  constructor
  · have := Int.mul_le_mul h1 h3 (by omega) (by omega); omega
  · have := Int.mul_le_mul h2 h4 (by omega) (by omega); omega

end Go.Proofs.Ytkbgdfibningoaa
