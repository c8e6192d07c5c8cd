/-
  Memory words: rows of pairs that the call owns: a store, a cut, cells cleared.
-/
import Derived.Test.YtdbfhcgifilhkaaMem3
import Derived.Lib.SliceRun
namespace Go.Proofs.Ytdbfhcgifilhkaa
open Go.RowKit

def encP (p : Int × Int) : List Value := [.int .i64 p.1, .int .i64 p.2]
theorem encP_len (p : Int × Int) : (encP p).length = 2 := rfl
theorem encP_one (p : Int × Int) : ∀ u ∈ encP p, u.oneCell' = true := fun u hu => by simp [encP] at hu; rcases hu with rfl | rfl <;> rfl
abbrev OwnP (E : TypeId) (w : World) (lo : Nat) (A : Option Addr) (n c : Nat) (xs : List (Int × Int)) : Prop := OwnK encP 2 E w lo A n c xs

theorem flatP_set : ∀ (xs : List (Int × Int)) (i : Nat) (p : Int × Int), i < xs.length → ((xs.flatMap encP).set (i * 2) (.int .i64 p.1)).set (i * 2 + 1) (.int .i64 p.2) = (xs.set i p).flatMap encP
  | [], _, _, h => by simp at h
  | q :: t, 0, p, _ => by simp [encP]
  | q :: t, i + 1, p, h => by
    have ih := flatP_set t i p (by simpa using h)
    rw [List.set_cons_succ, List.flatMap_cons, List.flatMap_cons, ← ih]
    rw [List.set_append_right _ _ (by simp [encP]; omega), List.set_append_right _ _ (by simp [encP]; omega)]
    congr 3
    all_goals simp [encP]; omega
section
variable {E : TypeId} {w : World} {lo g n c : Nat} {xs : List (Int × Int)}
theorem OwnP.stored (h : OwnP E w lo (some ⟨g, 0, none⟩) n c xs) {i : Nat} (hi : i < n) (p : Int × Int) :
    OwnP E ((w.setCell ⟨g, i * 2, none⟩ (.int .i64 p.1)).setCell ⟨g, i * 2 + 1, none⟩ (.int .i64 p.2)) lo (some ⟨g, 0, none⟩) n c (xs.set i p) ∧ w.grownBy ((w.setCell ⟨g, i * 2, none⟩ (.int .i64 p.1)).setCell ⟨g, i * 2 + 1, none⟩ (.int .i64 p.2)) (some g) := by
  obtain ⟨h1, g1⟩ := World.ownsRow.stored h.2 (i * 2) (.int .i64 p.1)
  obtain ⟨h2, g2⟩ := World.ownsRow.stored h1 (i * 2 + 1) (.int .i64 p.2)
  rw [flatP_set xs i p (by rw [h.1]; exact hi)] at h2
  exact ⟨⟨by rw [List.length_set]; exact h.1, h2⟩, grown_next g1 g2⟩
theorem OwnK.cut {α : Type} {enc : α → List Value} {k : Nat} (hk : ∀ x, (enc x).length = k) {xs : List α} (h : OwnK enc k E w lo (some ⟨g, 0, none⟩) n c xs) {m : Nat} (hm : m ≤ n) : OwnK enc k E w lo (some ⟨g, 0, none⟩) m c (xs.take m) := by
  obtain ⟨hl, hx, hr⟩ := h
  have hlm : (xs.take m).length = m := by rw [List.length_take]; omega
  refine ⟨hlm, by rw [flat_len hk, hlm], ?_⟩
  rcases hr with ⟨hv, _⟩ | ⟨g', cap, cur, hv, hlo, hg, hnc, hcm, hcs, htake⟩
  · injection hv with h1; cases h1
  · injection hv with h1 h2 h3
    subst h3
    refine .inr ⟨g', c, cur, by rw [h1], hlo, hg, by omega, hcm, hcs, ?_⟩
    have e : (xs.take m).flatMap enc = (xs.flatMap enc).take (m * k) := by
      have e1 : xs.flatMap enc = (xs.take m).flatMap enc ++ (xs.drop m).flatMap enc := by rw [← List.flatMap_append, List.take_append_drop]
      have e2 : ((xs.take m).flatMap enc).length = m * k := by rw [flat_len hk, hlm]
      rw [e1, ← e2, List.take_left']
      rfl
    rw [e, ← htake, List.take_take, Nat.min_eq_left (Nat.mul_le_mul_right k hm)]
theorem OwnK.cells_behind {α : Type} {enc : α → List Value} {k : Nat} : ∀ (vs : List Value) (o : Nat) {w : World} {xs : List α}, (∀ x, (enc x).length = k) → OwnK enc k E w lo (some ⟨g, 0, none⟩) n c xs → n * k ≤ o →
    OwnK enc k E (w.setCells g o vs) lo (some ⟨g, 0, none⟩) n c xs ∧ w.grownBy (w.setCells g o vs) (some g)
  | [], _, _, _, _, h, _ => ⟨h, grown_refl _ _⟩
  | v :: vs, o, w, xs, hk, h, ho => by
    obtain ⟨h1, g1⟩ := World.ownsRow.stored h.2 o v
    rw [List.set_eq_of_length_le (by rw [flat_len hk, h.1]; exact ho)] at h1
    obtain ⟨h2, g2⟩ := OwnK.cells_behind vs (o + 1) hk ⟨h.1, h1⟩ (by omega)
    exact ⟨h2, grown_next g1 g2⟩
end

/-- 'clear(s)', s a slice of n > 0 pairs. -/
theorem run_clear_pairs {P : Program} (w : World) (t e ty : TypeId) (ht : P.underlying t = some (.slice e)) (hv : ∀ w, (zeroValue e).run P w = .ok (.agg #[.int .i64 0, .int .i64 0]) w) (b o n c : Nat) (hn : 0 < n)
    (hc : ∀ j, j < n * 2 → (w.cell? ⟨b, o + j, none⟩).isSome = true) (hf : ∀ j, j < n * 2 → w.frozen? ⟨b, o + j, none⟩ = false) :
    (Builtin.clear_ #[t] ty #[.slice (some ⟨b, o, none⟩) n c]).run P w = .ok (.tuple #[]) (w.setCells b o (List.replicate (n * 2) (.int .i64 0))) := by
  have hzc : (Builtin.zeroCells (Value.agg #[.int .i64 0, .int .i64 0]).cells n).toList = List.replicate (n * 2) (.int .i64 0) := by
    simp [Builtin.zeroCells, Value.cells]
    apply List.ext_getElem
    · simp
    · intro i h1 h2
      have : i % 2 = 0 ∨ i % 2 = 1 := by omega
      rcases this with h | h <;> simp [h]
  have hst := run_storeCells_cells (P := P) b o (List.replicate (n * 2) (.int .i64 0)) 0 w (by simpa using hc) (by simpa using hf) (by intro v hv'; rw [List.eq_of_mem_replicate hv']; rfl)
  simp only [Nat.add_zero] at hst
  obtain ⟨m, rfl⟩ : ∃ m, n = m + 1 := ⟨n - 1, by omega⟩
  simp [Builtin.clear_, run_underlying ht, hv, hzc, hst]

end Go.Proofs.Ytdbfhcgifilhkaa
