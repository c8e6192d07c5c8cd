/-
  append of a part of a list onto a row of the call's own (for l1Put).
-/
import Derived.Test.YtcfibfbenccimaaGreatDoorApp
namespace Go.Proofs.YtcfibfbenccimaaGreatDoor
open Go.RowKit

/-- append of a part of a list onto a row of the call's own. -/
theorem wpList_appN {P : Program} {w : World} {ops : Array Oper} {rest : List Oper} {o : Oper} {a : Act} {Q : Exit → Act → World → Prop} (hgd : o.guard = none) (s x : Operand) (T E : TypeId)
    (ho : o.op = .call { callee := .builtin .append, args := #[s, x], argTypes := #[T, T] }) (i0 : TypeInfo)
    (hT : P.underlying T = some (.slice E)) (hi : P.info? E = some i0) (hz0 : i0.zero = some (.int .i64 0)) (hz1 : i0.size = 1) (hz2 : i0.bytes = 8)
    (lo : Nat) (A : Option Addr) (n c : Nat) (xs : List Int) (ad : Addr) (m cy : Nat) (ys : List Int) (hs : a.eval s = .slice A n c) (hown : OwnI E w lo A n c xs) (hx : a.eval x = .slice (some ad) m cy) (hm : ys.length = m)
    (hy : ∀ j y, ys[j]? = some y → w.cell? (ad.add j) = some (.int .i64 y)) (hn : n + m ≤ 1000000) (hlo : lo ≤ w.heap.size)
    (h : ∀ A' c' w', OwnI E w' lo A' (n + m) c' (xs ++ ys) → Below lo w w' → wpList P ops Q rest (a.put o.dst (.slice A' (n + m) c')) w') :
    wpList P ops Q (o :: rest) a w := by
  refine wpList_append_own w hgd s x T ho lo E i0 (.int .i64 0) 1 8 hT hi hz0 hz1 hz2 rfl (by decide) (.slice A n c) n (xs.map (Value.int .i64)) hs hown
    ad m cy (ys.map (Value.int .i64)) hx (by rw [List.length_map, hm]; omega) (fun j u hj => ?_) (fun u hu => ?_) (by unfold maxLen; omega) (by omega) hlo ?_
  · rw [List.getElem?_map] at hj
    cases hq : ys[j]? with
    | none => rw [hq] at hj; cases hj
    | some y => rw [hq] at hj; injection hj with hj; rw [← hj]; exact hy j y hq
  · obtain ⟨y, _, rfl⟩ := List.mem_map.1 hu; rfl
  · intro v' w' hown' hgrow _
    rw [← List.map_append] at hown'
    obtain ⟨A', c', rfl, hO⟩ := own_form hown'
    exact h A' c' w' hO ((Below.refl _ _).grown hgrow hlo (fun k hk => (World.ownsRow.lt hown k hk).1))

end Go.Proofs.YtcfibfbenccimaaGreatDoor
