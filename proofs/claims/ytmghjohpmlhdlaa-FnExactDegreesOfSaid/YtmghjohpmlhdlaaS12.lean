/-
  Contracts: CountLeaps.
-/
import Derived.Test.YtmghjohpmlhdlaaS10
namespace Go.Proofs.Ytmghjohpmlhdlaa
open Go.RowKit

theorem cnt_yes {f : Int × Int → Bool} {l : List (Int × Int)} {k : Nat} {x : Int × Int} (hx : l[k]? = some x) (h : f x = true) : ((l.take (k + 1)).filter f).length = ((l.take k).filter f).length + 1 := by
  rw [List.take_add_one, hx, List.filter_append]; simp [h]
theorem cnt_no {f : Int × Int → Bool} {l : List (Int × Int)} {k : Nat} {x : Int × Int} (hx : l[k]? = some x) (h : f x = false) : ((l.take (k + 1)).filter f).length = ((l.take k).filter f).length := by
  rw [List.take_add_one, hx, List.filter_append]; simp [h]

def countLeapsV (W H : Int) (xs : List Int) (a b : Int) : Int := if okTwo W H xs a b then sumL (degL W H xs a b) / 2 else 0
theorem sum_bd {f : Int → Int} {B : Int} (hB : 0 ≤ B) : ∀ (l : List Int), (∀ x ∈ l, 0 ≤ f x ∧ f x ≤ B) → 0 ≤ sumL (l.map f) ∧ sumL (l.map f) ≤ B * l.length
  | [], _ => by simp [sumL]
  | x :: t, h => by
    have ih := sum_bd hB t (fun y hy => h y (List.mem_cons_of_mem _ hy))
    have hx := h x List.mem_cons_self
    rw [List.map_cons, sumL_cons, List.length_cons]
    have : B * ((t.length + 1 : Nat) : Int) = B * t.length + B := by rw [Int.natCast_add, Int.mul_add]; omega
    omega
theorem sum_take {f : Int → Int} {l : List Int} {k : Nat} {x : Int} (hx : l[k]? = some x) : sumL ((l.take (k + 1)).map f) = sumL ((l.take k).map f) + f x := by
  rw [List.take_add_one, hx, List.map_append]; exact sumL_snoc _ _
theorem pairs_bd {W H a b : Int} {xs : List Int} (hl : leaperB a b = true) (l : List Int) (h : l.length ≤ 64) : 0 ≤ sumL (l.map fun q => (((goesL W H xs a b q).filter leadsB).length : Int)) ∧ sumL (l.map fun q => (((goesL W H xs a b q).filter leadsB).length : Int)) ≤ 512 := by
  have := sum_bd (f := fun q => (((goesL W H xs a b q).filter leadsB).length : Int)) (B := 8) (by omega) l (fun x _ => by
    have h1 := List.length_filter_le leadsB (goesL W H xs a b x)
    have h2 := goesL_len8 (W := W) (H := H) (xs := xs) (q := x) hl
    omega)
  omega
theorem deg_bd {W H a b : Int} {xs : List Int} (hN : 1 ≤ W * H ∧ W * H ≤ 64) (l : List Int) (h : l.length ≤ 64) : 0 ≤ sumL (l.map fun q => ((leapsL W H xs a b q).length : Int)) ∧ sumL (l.map fun q => ((leapsL W H xs a b q).length : Int)) ≤ 4096 := by
  have := sum_bd (f := fun q => ((leapsL W H xs a b q).length : Int)) (B := 64) (by omega) l (fun x _ => by
    have h2 := leapsL_len64 (W := W) (H := H) (xs := xs) (a := a) (b := b) (q := x) hN
    omega)
  omega

end Go.Proofs.Ytmghjohpmlhdlaa
