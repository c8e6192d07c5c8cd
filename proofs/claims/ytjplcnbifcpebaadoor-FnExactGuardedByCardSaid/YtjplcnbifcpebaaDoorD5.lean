/-
  Contracts: the cells that are guarded, as words.
-/
import Derived.Test.YtjplcnbifcpebaaDoorD3
import Derived.Test.YtjplcnbifcpebaaDoorD4
import Derived.Test.YtjplcnbifcpebaaDoorE15
namespace Go.Proofs.YtjplcnbifcpebaaDoor
open Go.RowKit Go.Shelf
attribute [local go_sem] Oper.semAt_some

/-- The cells that are guarded from one, by the ground's words. -/
def grdC (G : List Nat) (x : Int) : Nat := G.getD (1 + x.toNat) 0 ||| 2 ^ x.toNat
/-- The cells that are guarded from some. -/
def grdL (G : List Nat) (l : List Int) : Nat := l.foldl (fun acc x => acc ||| grdC G x) 0
theorem grdL_snoc (G : List Nat) (l : List Int) (x : Int) : grdL G (l ++ [x]) = grdL G l ||| grdC G x := by simp [grdL, List.foldl_append]
theorem or_lt64 {a b : Nat} (ha : a < 18446744073709551616) (hb : b < 18446744073709551616) : a ||| b < 18446744073709551616 := Nat.or_lt_two_pow (n := 64) ha hb
theorem getD_lt {G : List Nat} (hGb : ∀ x ∈ G, x < 18446744073709551616) (i : Nat) : G.getD i 0 < 18446744073709551616 := by
  rw [List.getD_eq_getElem?_getD]
  cases h : G[i]? with
  | none => decide
  | some y => exact hGb y (List.mem_of_getElem? h)
theorem grdC_lt {G : List Nat} (hGb : ∀ x ∈ G, x < 18446744073709551616) {x : Int} (h0 : 0 ≤ x) (h1 : x < 64) : grdC G x < 18446744073709551616 :=
  or_lt64 (getD_lt hGb _) (Nat.lt_of_lt_of_le (Nat.pow_lt_pow_right (by decide) (by omega : x.toNat < 64)) (by decide))
theorem grdL_lt' {G : List Nat} (hGb : ∀ x ∈ G, x < 18446744073709551616) : ∀ (l : List Int) (acc : Nat), acc < 18446744073709551616 → (∀ x ∈ l, 0 ≤ x ∧ x < 64) → l.foldl (fun acc x => acc ||| grdC G x) acc < 18446744073709551616
  | [], _, h, _ => h
  | x :: l, acc, ha, h => grdL_lt' hGb l _ (or_lt64 ha (grdC_lt hGb (h x (by simp)).1 (h x (by simp)).2)) (fun y hy => h y (by simp [hy]))
theorem grdL_lt {G : List Nat} (hGb : ∀ x ∈ G, x < 18446744073709551616) (l : List Int) (h : ∀ x ∈ l, 0 ≤ x ∧ x < 64) : grdL G l < 18446744073709551616 := grdL_lt' hGb l 0 (by decide) h
theorem grdL_bit' {G : List Nat} {i : Nat} : ∀ (l : List Int) (acc : Nat), (l.foldl (fun acc x => acc ||| grdC G x) acc).testBit i = true ↔ acc.testBit i = true ∨ ∃ x ∈ l, (grdC G x).testBit i = true
  | [], acc => by simp
  | x :: l, acc => by
    rw [List.foldl_cons, grdL_bit' l, Nat.testBit_or, Bool.or_eq_true]
    constructor
    · rintro ((h | h) | ⟨y, hy, h⟩)
      · exact .inl h
      · exact .inr ⟨x, by simp, h⟩
      · exact .inr ⟨y, by simp [hy], h⟩
    · rintro (h | ⟨y, hy, h⟩)
      · exact .inl (.inl h)
      · rcases List.mem_cons.1 hy with rfl | hy
        · exact .inl (.inr h)
        · exact .inr ⟨y, hy, h⟩
theorem grdL_bit {G : List Nat} {i : Nat} (l : List Int) : (grdL G l).testBit i = true ↔ ∃ x ∈ l, (grdC G x).testBit i = true := by
  rw [grdL, grdL_bit']
  simp
theorem grdC_bit {G : List Nat} {x : Int} {i : Nat} : (grdC G x).testBit i = true ↔ (G.getD (1 + x.toNat) 0).testBit i = true ∨ x.toNat = i := by
  rw [grdC, Nat.testBit_or, Bool.or_eq_true, Nat.testBit_two_pow, decide_eq_true_eq]

set_option maxRecDepth 100000 in
theorem guardedFrom_any (G : List Nat) (hG : G.length = 65) (hGb : ∀ x ∈ G, x < 18446744073709551616) (x : Int) (h0 : 0 ≤ x) (h1 : x < 64) (w : World) :
    Calls Tryd.prog 42 #[.agg (words G).toArray, .int .i64 x] w fun e w' => e = .returned (.int .u64 ((grdC G x : Nat) : Int)) ∧ Below w.heap.size w w' := by
  obtain ⟨y, hy⟩ : ∃ y, y = G.getD (1 + x.toNat) 0 := ⟨_, rfl⟩
  have hyg : G[1 + x.toNat]? = some y := by rw [hy, List.getD_eq_getElem?_getD, List.getElem?_eq_getElem (by omega)]; rfl
  have hy9 : y < 18446744073709551616 := hGb y (List.mem_of_getElem? hyg)
  obtain ⟨W1, hW1⟩ : ∃ W1, W1 = w.alloc (.cells (words G).toArray 48) := ⟨_, rfl⟩
  have hb1 : Below w.heap.size w W1 := by rw [hW1]; exact below_new (Below.refl _ _) _
  have hc1 : W1.cell? ⟨w.heap.size, 1 + x.toNat, none⟩ = some (.int .u64 (y : Int)) := by
    rw [hW1, cell_of_row _ _ _ _ _ _ (World.alloc_heap_new _ _), List.getElem?_toArray, words, List.getElem?_map, hyg]; rfl
  have hcw : (words G)[1 + x.toNat]? = some (.int .u64 (y : Int)) := by rw [words, List.getElem?_map, hyg]; rfl
  have HY := Lib.hid hy
  have hx : x = ((x.toNat : Nat) : Int) := by omega
  have hwith := withS_any y x.toNat hy9 (by omega) W1
  rw [← hx] at hwith
  have HX := Lib.hid hx
  clear hy hyg hx hGb hG
  go_enter Tryd.func42, Tryd.ntmps42
  go_wp2_with fail
  rw [← hW1]
  clear hW1
  refine hwith.mono ?_
  rintro e wv ⟨rfl, rfl⟩
  go_wp2
  go_ret
  exact ⟨by rw [grdC, ← HY.out]; rfl, hb1⟩
end Go.Proofs.YtjplcnbifcpebaaDoor
