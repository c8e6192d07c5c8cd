/-
  Contracts: the cells to which a leaper leaps, in the program, in order.
-/
import Derived.Test.YtnmmgalidkambaaGreatDoorApp
import Derived.Test.YtnmmgalidkambaaGreatDoorShelf
import Derived.Test.YtnmmgalidkambaaGreatDoorQ1
import Derived.Test.YtnmmgalidkambaaGreatDoorMem2
import Derived.Sort.OwnSortedInts
namespace Go.Proofs.YtnmmgalidkambaaGreatDoor
open Go.RowKit

/-- append of one int as one step of a region that draws. -/
theorem step_app1 {P : Program} {w : World} {ops : Array Oper} {o : Oper} {a : Act} {K : Act → World → Prop} {Q : Exit → Act → World → Prop} {E0 : Prop} (hgd : o.guard = none) (s x : Operand) (T E : TypeId)
    (ho : o.op = .call { callee := .builtin .append, args := #[s, x], argTypes := #[T, T] }) (i0 : TypeInfo)
    (hT : P.underlying T = some (.slice E)) (hi : P.info? E = some i0) (hz0 : i0.zero = some (.int .i64 0)) (hz1 : i0.size = 1) (hz2 : i0.bytes = 8)
    (lo : Nat) (A : Option Addr) (n c : Nat) (xs : List Int) (q : Int) (hs : a.eval s = .slice A n c) (hown : OwnI E w lo A n c xs) (hx : a.eval x = .slice (some ⟨w.heap.size, 0, none⟩) 1 1)
    (hn : n ≤ 1000000) (hlo : lo ≤ w.heap.size)
    (hK : ∀ A' c' w', OwnI E w' lo A' (n + 1) c' (xs ++ [q]) → Below lo w w' → (∀ b o, b < w.heap.size → (∀ y, A = some y → y.block ≠ b) → w'.cell? ⟨b, o, none⟩ = w.cell? ⟨b, o, none⟩) → K (a.put o.dst (.slice A' (n + 1) c')) w') :
    if Region.wanted o (yielded ops a.tmps) = true then Oper.wp P o a (w.alloc (.cells #[.int .i64 q] E)) K Q else E0 := by
  have hw : Region.wanted o (yielded ops a.tmps) = true := by simp [Region.wanted, hgd]
  rw [if_pos hw]
  refine wp_append_own (w.alloc (.cells #[.int .i64 q] E)) s x T ho lo E i0 (.int .i64 0) 1 8 hT hi hz0 hz1 hz2 rfl (by decide) (.slice A n c) n (xs.map (Value.int .i64)) hs (World.ownsRow.alloc hown _)
    ⟨w.heap.size, 0, none⟩ 1 1 [.int .i64 q] hx rfl ?_ ?_ (by unfold maxLen; omega) (by omega) (by simp; omega) ?_
  · intro j u hj
    match j, hj with
    | 0, hj =>
      simp at hj; subst hj
      exact cell_of_row (w.alloc (.cells #[.int .i64 q] E)) w.heap.size 0 #[.int .i64 q] E (0, 0) (heap_alloc_new w _)
  · intro u hu; simp at hu; subst hu; rfl
  · intro v' w' hown' hgrow _
    have e : xs.map (Value.int .i64) ++ [.int .i64 q] = (xs ++ [q]).map (Value.int .i64) := by simp
    rw [e] at hown'
    obtain ⟨A', c', rfl, hO⟩ := own_form hown'
    refine hK A' c' w' hO ?_ ?_
    · have hb : Below lo w (w.alloc (.cells #[.int .i64 q] E)) := (Below.refl _ _).alloc hlo _
      refine hb.grown hgrow (by simp; omega) (fun k hk => ?_)
      exact (World.ownsRow.lt hown k hk).1
    · intro b o hb hne
      have h1 := World.cell?_of_block (a := ⟨b, o, none⟩) (hgrow.block b (by simp; omega) (by
        rcases A with _ | y
        · simp [Value.ownBlock]
        · have := hne y rfl; simp [Value.ownBlock]; omega))
      exact h1.trans (((Below.refl w.heap.size w).alloc (Nat.le_refl _) _).cell (p := ⟨b, o, none⟩) hb)

/-- slices.Sort of a row of ints of the call's own. -/
theorem sortI_any (lo : Nat) (A : Option Addr) (n c : Nat) (xs : List Int) (w : World) (hown : OwnI 3 w lo A n c xs) (hn : n ≤ 1000000) (hlo : lo ≤ w.heap.size) :
    Calls Tryz.prog 77 #[.slice A n c] w fun e w' => e = .returned (.tuple #[]) ∧ (∃ ys, OwnI 3 w' lo A n c ys ∧ ys.Perm xs ∧ ys.Pairwise (· ≤ ·)) ∧ Below lo w w' := by
  have hl := hown.len
  by_cases h0 : n = 0
  · subst h0
    obtain rfl : xs = [] := List.eq_nil_of_length_eq_zero hl
    exact (Tryz.slices_Sort_int_none A c w).mono fun e w' ⟨he, hw⟩ => ⟨he, ⟨[], by rw [hw]; exact hown, List.Perm.refl _, List.Pairwise.nil⟩, by rw [hw]; exact Below.refl _ _⟩
  · obtain ⟨g, rfl, hg1, hg2⟩ := hown.some_ (k := 0) (by omega)
    have hr := hown.2
    rcases hr with ⟨hv, _⟩ | ⟨g', cap, cur, hv, hb, hg, hnc, hm, hcs, htake⟩
    · injection hv with h1; cases h1
    · injection hv with h1 h2 h3
      injection h1 with h1
      injection h1 with h1
      subst h1 h3
      have hh : Go.Sort.Holds (Value.int .i64) w g 0 xs.toArray := holds_of_blockI hg (by rw [Nat.mul_one] at htake; rw [hl]; exact htake)
      have hp : (xs.mergeSort fun x y => decide (x ≤ y)).Perm xs := List.mergeSort_perm _ _
      have hcon := Tryz.slices_Sort_int g 0 c xs w hh hg2 (by omega)
      rw [hl] at hcon
      refine hcon.mono ?_
      rintro e w' ⟨rfl, m, os, rfl⟩
      refine ⟨rfl, ⟨_, ?_, hp, ?_⟩, below_of_grown (grownBy_sortedI _) hlo (fun g' h => by injection h with h; omega)⟩
      · have := ownsRow_sortedI (n := m) (os := os) (ss := xs) (ts := xs.mergeSort fun x y => decide (x ≤ y)) hp.length_eq hb hg (by rw [hl]; exact hnc) hm hcs
        rw [hl] at this
        exact this
      · have h := List.pairwise_mergeSort (le := fun x y : Int => decide (x ≤ y)) (by intro a b c; simp; omega) (by intro a b; simp; omega) xs
        exact h.imp (fun h => by simpa using h)

end Go.Proofs.YtnmmgalidkambaaGreatDoor
