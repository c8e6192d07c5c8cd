/-
  Contracts: the steps of a leaper, in the program.
-/
import Derived.Test.YtnmmgalidkambaaGreatDoorS1
import Derived.Test.YtnmmgalidkambaaGreatDoorS2
import Derived.Test.YtnmmgalidkambaaGreatDoorQ1
import Derived.Shelf.SlSortCmp.WholeK
namespace Go.Proofs.YtnmmgalidkambaaGreatDoor
open Go.RowKit

theorem ltOf_cmpP (p q : Int × Int) : ltOf cmpP p q = lexB p q := by
  unfold ltOf cmpP Lib.compareInt lexB
  rw [Bool.eq_iff_iff, decide_eq_true_eq, decide_eq_true_eq]
  repeat' split
  all_goals omega
theorem swo_cmpP : Go.Sort.SWO (ltOf cmpP) where
  irrefl p := by rw [ltOf_cmpP]; simp [lexB]
  trans p q r h1 h2 := by rw [ltOf_cmpP] at *; rw [lexB_iff] at *; omega
  ntrans p q r h1 h2 := by
    rw [ltOf_cmpP] at *
    rw [Bool.eq_false_iff, Ne, lexB_iff] at *
    omega

set_option maxHeartbeats 1000000 in
theorem sortSpot_any (lo g c n : Nat) (xs : List (Int × Int)) (w : World) (hown : OwnP 90 w lo (some ⟨g, 0, none⟩) n c xs) (hn : n ≤ 1000000) :
    Calls Tryz.prog 98 #[.slice (some ⟨g, 0, none⟩) n c, .func (.func 99) #[] #[]] w fun e w' =>
      e = .returned (.tuple #[]) ∧ OwnP 90 w' lo (some ⟨g, 0, none⟩) n c (sortL xs) ∧ w.grownBy w' (some g) := by
  have eg : ∀ args w, (callFunc 99 args).run Tryz.prog w = .ok (.enter 99 args) w := enters_of Tryz.func99 (by kernel_rfl) rfl
  have hlt : g < w.heap.size := by
    rcases hown.form with ⟨h, _⟩ | ⟨g', h, _, h2, _⟩
    · cases h
    · injection h with h; injection h with h; rw [h]; exact h2
  have hsz : xs.toArray.size = n := by simpa using hown.1
  have hcon := AnyQ.slices_SortFunc Tryz.sortSpot 2 (fun _ => by kernel_rfl) (fun _ => by kernel_rfl) encP encP_len encP_one cmpP swo_cmpP 99 #[] g 0 c xs.toArray w eg (fun _ _ _ _ x y => compare_any x y _) (hown.holds encP_len) hlt (by rw [hsz]; omega)
  change Calls Tryz.prog 98 _ _ _ at hcon
  rw [hsz] at hcon
  refine hcon.mono ?_
  rintro e w' ⟨rfl, d, m, os, hp, hs, rfl⟩
  have hd : d.size = n := hp.1.trans hsz
  obtain ⟨h1, h2⟩ := hown.sorted encP_len d hd m os
  have e1 : d.toList.Perm xs := by
    have := hp.2.2
    rw [Array.extract_eq_self_of_le (by omega), Array.extract_eq_self_of_le (by omega)] at this
    simpa using this
  have e2 : d.toList.Pairwise lexLe := by
    rw [List.pairwise_iff_getElem]
    intro i j hi hj hij
    have h := hs i j (Nat.zero_le _) hij (by rw [← hd]; simpa using hj)
    rw [ltOf_cmpP, getElem!_pos d j (by simpa using hj), getElem!_pos d i (by simpa using hi)] at h
    exact h
  have e3 : d.toList = sortL xs := sorted_unique (e1.trans (sort_perm xs).symm) e2 (sort_sorted xs)
  rw [e3] at h1
  exact ⟨rfl, h1, h2⟩

/-- append of some elements, laid in a new block, onto a row of the call's own. -/
theorem wpList_appKn {α : Type} {enc : α → List Value} {k : Nat} {E : TypeId} {P : Program} {w : World} {ops : Array Oper} {rest : List Oper} {o : Oper} {a : Act} {Q : Exit → Act → World → Prop} (hgd : o.guard = none) (s x : Operand) (T : TypeId)
    (ho : o.op = .call { callee := .builtin .append, args := #[s, x], argTypes := #[T, T] }) (i0 : TypeInfo) (z : Value) (bytes : Nat)
    (hT : P.underlying T = some (.slice E)) (hi : P.info? E = some i0) (hz0 : i0.zero = some z) (hz1 : i0.size = k) (hz2 : i0.bytes = bytes) (hzs : z.cells.size = k) (hk0 : 0 < k) (hby : bytes ≤ 64)
    (hk : ∀ x, (enc x).length = k) (h1 : ∀ x, ∀ u ∈ enc x, u.oneCell' = true)
    (lo : Nat) (A : Option Addr) (n c m : Nat) (xs ys : List α) (cs : Array Value) (hcs : cs.toList = ys.flatMap enc) (hs : a.eval s = .slice A n c) (hown : OwnK enc k E w lo A n c xs) (hx : a.eval x = .slice (some ⟨w.heap.size, 0, none⟩) m m) (hm : ys.length = m)
    (hn : n + m ≤ 1000000) (hlo : lo ≤ w.heap.size)
    (h : ∀ A' c' w', OwnK enc k E w' lo A' (n + m) c' (xs ++ ys) → Below lo w w' → wpList P ops Q rest (a.put o.dst (.slice A' (n + m) c')) w') :
    wpList P ops Q (o :: rest) a (w.alloc (.cells cs E)) :=
  wpList_appK hgd s x T ho i0 z bytes hT hi hz0 hz1 hz2 hzs hk0 hby hk h1 ys ⟨w.heap.size, 0, none⟩ m m hs (hown.alloc _) hx hm
    (fun j u hj => by
      rw [← hcs] at hj
      have e : (⟨w.heap.size, 0, none⟩ : Addr).add j = ⟨w.heap.size, j, none⟩ := by unfold Addr.add; split <;> simp_all
      rw [e, cell_of_row (w.alloc (.cells cs E)) w.heap.size j cs E (0, 0) (heap_alloc_new w _)]
      simpa using hj)
    hn (by simp; omega) (fun A' c' w' hO _ hb => h A' c' w' hO (((Below.refl _ _).alloc hlo _).trans hb))

end Go.Proofs.YtnmmgalidkambaaGreatDoor
