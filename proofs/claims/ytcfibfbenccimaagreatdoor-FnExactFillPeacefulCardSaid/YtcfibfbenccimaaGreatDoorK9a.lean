/-
  Contracts: a list of the call's own with the same numbers (the model).
-/
import Derived.Test.YtcfibfbenccimaaGreatDoorB4
import Derived.Test.YtcfibfbenccimaaGreatDoorApp2
namespace Go.Proofs.YtcfibfbenccimaaGreatDoor
open Go.RowKit

theorem l1Own_any (a1 : Addr) (n c : Nat) (ys : List Int) (w : World) (hy : Rd w (some a1) n ys) (h64 : n ≤ 1000) :
    Calls Tryz.prog 42 #[.slice (some a1) n c] w fun e w' => ∃ A' c', e = .returned (.slice A' n c') ∧ OwnI 3 w' w.heap.size A' n c' ys ∧ Below w.heap.size w w' := by
  obtain ⟨i0, hi, hz0, hz1, hz2⟩ := info_parts infoI
  have HI := Lib.hid hi; have HZ0 := Lib.hid hz0; have HZ1 := Lib.hid hz1; have HZ2 := Lib.hid hz2
  clear hi hz0 hz1 hz2
  go_enter Tryz.func42, Tryz.ntmps42
  have hown : OwnI 3 (w.alloc (.cells #[] 3)) w.heap.size (some ⟨w.heap.size, 0, none⟩) 0 0 [] :=
    World.ownsRow_made (base := w.heap.size) (e := 3) (size := 1) w #[] 0 (Nat.le_refl _) (Nat.zero_le _) rfl
  have OWN := Lib.hid hown
  have HY := Lib.hid (hy.alloc (.cells #[] 3))
  have HB := Lib.hid ((Below.refl w.heap.size w).alloc (Nat.le_refl _) (.cells #[] 3))
  clear hown hy
  go_wp2_with (at_builtin; refine wpList_appN rfl (.tmp 3) (.tmp 4) 22 3 rfl i0 Tryz.underlying22 HI.out HZ0.out HZ1.out HZ2.out w.heap.size _ 0 0 [] a1 n c ys rfl OWN.out rfl HY.out.1 (fun j y hj => HY.out.cell_ hj) (by omega) (by simp) ?_; intro A9 c9 w9 hown9 hb9)
  go_ret
  exact ⟨A9, c9, rfl, by simpa using hown9, HB.out.trans hb9⟩

theorem l1Own_all (A : Option Addr) (n c : Nat) (ys : List Int) (w : World) (hy : Rd w A n ys) (h64 : n ≤ 1000) :
    Calls Tryz.prog 42 #[.slice A n c] w fun e w' => ∃ A' c', e = .returned (.slice A' n c') ∧ OwnI 3 w' w.heap.size A' n c' ys ∧ Below w.heap.size w w' := by
  cases A with
  | some a1 => exact l1Own_any a1 n c ys w hy h64
  | none =>
    have hn : n = 0 := by
      rcases Nat.eq_zero_or_pos n with h | h
      · exact h
      · obtain ⟨_, _, _, hA, _⟩ := hy.2.2 0 h; cases hA
    subst hn
    have hys : ys = [] := List.eq_nil_of_length_eq_zero hy.1
    subst hys
    have hown : OwnI 3 (w.alloc (.cells #[] 3)) w.heap.size (some ⟨w.heap.size, 0, none⟩) 0 0 [] :=
      World.ownsRow_made (base := w.heap.size) (e := 3) (size := 1) w #[] 0 (Nat.le_refl _) (Nat.zero_le _) rfl
    have OWN := Lib.hid hown
    have HB := Lib.hid ((Below.refl w.heap.size w).alloc (Nat.le_refl _) (.cells #[] 3))
    clear hown hy
    go_enter Tryz.func42, Tryz.ntmps42
    go_wp2
    go_ret
    exact ⟨some ⟨w.heap.size, 0, none⟩, 0, rfl, OWN.out, HB.out⟩
theorem step_appN {P : Program} {w : World} {ops : Array Oper} {o : Oper} {a : Act} {K : Act → World → Prop} {Q : Exit → Act → World → Prop} {E0 : Prop} (hgd : o.guard = none) (s x : Operand) (T E : TypeId)
    (ho : o.op = .call { callee := .builtin .append, args := #[s, x], argTypes := #[T, T] }) (i0 : TypeInfo)
    (hT : P.underlying T = some (.slice E)) (hi : P.info? E = some i0) (hz0 : i0.zero = some (.int .i64 0)) (hz1 : i0.size = 1) (hz2 : i0.bytes = 8)
    (lo : Nat) (A : Option Addr) (n c : Nat) (xs : List Int) (ad : Addr) (m cy : Nat) (ys : List Int) (hs : a.eval s = .slice A n c) (hown : OwnI E w lo A n c xs) (hx : a.eval x = .slice (some ad) m cy) (hm : ys.length = m)
    (hy : ∀ j y, ys[j]? = some y → w.cell? (ad.add j) = some (.int .i64 y)) (hn : n + m ≤ 1000000) (hlo : lo ≤ w.heap.size)
    (h : ∀ A' c' w', OwnI E w' lo A' (n + m) c' (xs ++ ys) → Below lo w w' → K (a.put o.dst (.slice A' (n + m) c')) w') :
    if Region.wanted o (yielded ops a.tmps) = true then Oper.wp P o a w K Q else E0 := by
  have hw : Region.wanted o (yielded ops a.tmps) = true := by simp [Region.wanted, hgd]
  rw [if_pos hw]
  refine wp_append_own w s x T ho lo E i0 (.int .i64 0) 1 8 hT hi hz0 hz1 hz2 rfl (by decide) (.slice A n c) n (xs.map (Value.int .i64)) hs hown
    ad m cy (ys.map (Value.int .i64)) hx (by rw [List.length_map, hm]; omega) (fun j u hj => ?_) (fun u hu => ?_) (by unfold maxLen; omega) (by omega) hlo ?_
  · rw [List.getElem?_map] at hj
    cases hq : ys[j]? with
    | none => rw [hq] at hj; cases hj
    | some y => rw [hq] at hj; injection hj with hj; rw [← hj]; exact hy j y hq
  · obtain ⟨y, _, rfl⟩ := List.mem_map.1 hu; rfl
  · intro v' w' hown' hgrow _
    rw [← List.map_append] at hown'
    obtain ⟨A', c', rfl, hO⟩ := own_form hown'
    exact h A' c' w' hO ((Below.refl _ _).grown hgrow hlo (fun k hk => (World.ownsRow.lt hown k hk).1))
end Go.Proofs.YtcfibfbenccimaaGreatDoor
