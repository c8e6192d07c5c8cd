/-
  Contracts: WalkOfSteps: the walk, and the model.
-/
import Derived.Test.YtadopgfpfbianaaY2
import Derived.Test.YtadopgfpfbianaaV1
import Derived.Test.YtadopgfpfbianaaS5
namespace Go.Proofs.Ytadopgfpfbianaa
open Go.RowKit

def stOk (W H : Int) (xs : List Int) (a b at_ k : Int) : Bool := inB k 0 (((stepsL a b).length : Int) - 1) && spotB W H xs (at_ % W + ((stepsL a b).getD k.toNat (0, 0)).1) (at_ / W + ((stepsL a b).getD k.toNat (0, 0)).2)
def stTo (W a b at_ k : Int) : Int := (at_ / W + ((stepsL a b).getD k.toNat (0, 0)).2) * W + (at_ % W + ((stepsL a b).getD k.toNat (0, 0)).1)
/-- The cells of a walk by steps, behind those in P; none if a step leads nowhere. -/
def goA (W H : Int) (xs : List Int) (a b : Int) : List Int → Int → List Int → Option (List Int)
  | P, _, [] => some P
  | P, at_, k :: t => if stOk W H xs a b at_ k then goA W H xs a b (P ++ [stTo W a b at_ k]) (stTo W a b at_ k) t else none
theorem goA_pre {W H a b : Int} {xs : List Int} : ∀ (l P : List Int) (c : Int) (L : List Int), goA W H xs a b P c l = some L → ∃ R, L = P ++ R
  | [], P, c, L, h => ⟨[], by rw [goA] at h; injection h with h; rw [List.append_nil, h]⟩
  | k :: t, P, c, L, h => by
    rw [goA] at h
    split at h
    · obtain ⟨R, hR⟩ := goA_pre t _ _ L h
      exact ⟨_, by rw [hR, List.append_assoc]⟩
    · cases h
def fineO (L : Option (List Int)) : Bool := match L with | some l => decide l.Nodup | none => false
theorem fine_dup {W H a b : Int} {xs : List Int} {l P : List Int} {c : Int} (h : ¬ P.Nodup) : fineO (goA W H xs a b P c l) = false := by
  cases hg : goA W H xs a b P c l with
  | none => rfl
  | some L =>
    obtain ⟨R, rfl⟩ := goA_pre l P c L hg
    exact decide_eq_false fun hn => h (List.nodup_append.1 hn).1
def okW0 (W H : Int) (xs : List Int) (a b s : Int) (ks : List Int) : Bool := twoV W H xs a b && hasB W H xs s && decide (ks.length ≤ 63)
def okWS (W H : Int) (xs : List Int) (a b s : Int) (ks : List Int) : Bool := okW0 W H xs a b s ks && fineO (goA W H xs a b [s] s ks)
def wosV (W H : Int) (xs : List Int) (a b s : Int) (ks : List Int) : List Int := if okWS W H xs a b s ks then (goA W H xs a b [s] s ks).getD [] else []
theorem goA_len {W H a b : Int} {xs : List Int} : ∀ (l P : List Int) (c : Int) (L : List Int), goA W H xs a b P c l = some L → L.length = P.length + l.length
  | [], P, c, L, h => by rw [goA] at h; injection h with h; simp [h]
  | k :: t, P, c, L, h => by
    rw [goA] at h
    split at h
    · rw [goA_len t _ _ L h]; simp; omega
    · cases h
theorem len_WalkOfSteps (W H : Int) (xs : List Int) (a b s : Int) (ks : List Int) : (wosV W H xs a b s ks).length ≤ 1000000 := by
  unfold wosV; split
  · rename_i h
    simp only [okWS, okW0, Bool.and_eq_true, decide_eq_true_eq] at h
    cases hg : goA W H xs a b [s] s ks with
    | none => simp
    | some L => have := goA_len ks [s] s L hg; simp at this ⊢; omega
  · simp
theorem goA_drop {W H a b c x : Int} {xs ks P : List Int} {k : Nat} (hx : ks[k]? = some x) : goA W H xs a b P c (ks.drop k) = if stOk W H xs a b c x then goA W H xs a b (P ++ [stTo W a b c x]) (stTo W a b c x) (ks.drop (k + 1)) else none := by
  rw [drop_cons_of hx, goA]
theorem own_lit {w : World} (E : TypeId) (q : Int) : OwnI E (w.alloc (.cells #[.int .i64 q] E)) w.heap.size (some ⟨w.heap.size, 0, none⟩) 1 1 [q] := by
  unfold OwnI
  refine ⟨rfl, Or.inr ⟨w.heap.size, 1, #[.int .i64 q], rfl, Nat.le_refl _, heap_alloc_new w _, by omega, by unfold maxLen; omega, rfl, rfl⟩⟩

end Go.Proofs.Ytadopgfpfbianaa
