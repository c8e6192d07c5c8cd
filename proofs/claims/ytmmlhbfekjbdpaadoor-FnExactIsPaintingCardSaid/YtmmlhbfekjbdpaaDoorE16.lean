/-
  Paintings, in plain terms: sets that are free, and colours of leaps.
-/
import Derived.Test.YtmmlhbfekjbdpaaDoorE15
import Derived.Test.YtmmlhbfekjbdpaaDoorF6
namespace Go.Proofs.YtmmlhbfekjbdpaaDoor
open Go.RowKit

def cAt (cs : List Int) (x : Int) : Int := cs.getD x.toNat 0
/-- No leap joins two cells of one colour. -/
def paIsB (W H : Int) (xs : List Int) (a b : Int) (cs : List Int) : Bool := (cellsL W H xs).all fun c => (leapsL W H xs a b c).all fun d => !(cAt cs c == cAt cs d)
theorem gl_near {W H a b x : Int} {xs pre : List Int} (h0 : 0 ≤ x) (h1 : x < 64) (hx : x ∈ pre) : (gl W H xs a b pre).getD (1 + x.toNat) 0 = nearS W H xs a b x := by
  rw [List.getD_eq_getElem?_getD, gl, show 1 + x.toNat = x.toNat + 1 by omega, List.getElem?_cons_succ, List.getElem?_map, List.getElem?_range (by omega)]
  simp [show ((x.toNat : Nat) : Int) = x by omega, hx]
theorem near_test {W H a b x y : Int} {xs : List Int} (hy : ∀ z ∈ leapsL W H xs a b x, 0 ≤ z) (h0 : 0 ≤ y) : (nearS W H xs a b x).testBit y.toNat = true ↔ y ∈ leapsL W H xs a b x := by
  rw [nearS, setBits_test _ _ _ rfl]
  simp only [List.mem_map]
  constructor
  · rintro ⟨z, hz, e⟩
    have := hy z hz
    rw [show y = z by omega]; exact hz
  · intro h; exact ⟨y, h, rfl⟩
theorem cells_rng64 {W H : Int} {xs : List Int} (hg : goodB W H xs = true) : ∀ x ∈ cellsL W H xs, 0 ≤ x ∧ x < 64 := fun x hx => by
  have h1 := (hasB_iff.1 (cellsL_mem.1 hx)).1
  obtain ⟨hW, hH, _, _⟩ := goodB_iff.1 hg
  have := cells_le hW hH
  omega
theorem col_of {W H : Int} {xs cs : List Int} (hc : goodCols W H xs cs = true) {x : Int} (hx : hasB W H xs x = true) : ∃ c : Nat, c < 9 ∧ cs[x.toNat]? = some (c : Int) := by
  have hr := (hasB_iff.1 hx).1
  have hl := good_len hc
  have hlt : x.toNat < cs.length := by omega
  have hv : cs[x.toNat]? = some cs[x.toNat] := List.getElem?_eq_getElem hlt
  have hok := good_at hc hv
  rw [show ((x.toNat : Nat) : Int) = x by omega, cellOk, if_pos hx] at hok
  have := inB_iff.1 hok
  exact ⟨cs[x.toNat].toNat, by omega, by rw [hv]; congr 1; omega⟩
theorem has_of_col {W H : Int} {xs cs : List Int} (hc : goodCols W H xs cs = true) {k c : Nat} (h : cs[k]? = some (c : Int)) : hasB W H xs (k : Int) = true := by
  have hok := good_at hc h
  unfold cellOk at hok
  split at hok
  · assumption
  · simp at hok

theorem painted_eq {W H a b : Int} {xs cs : List Int} (hg : goodB W H xs = true) (hc : goodCols W H xs cs = true) :
    ((List.range 9).all fun c => freeB (gl W H xs a b (cellsL W H xs)) (paintN cs cs.length c)) = paIsB W H xs a b cs := by
  have hcl := cells_rng64 hg
  have hlen := good_len hc
  have hnn : ∀ x, ∀ z ∈ leapsL W H xs a b x, 0 ≤ z := fun x z hz => (hcl z (List.mem_filter.1 hz).1).1
  rw [Bool.eq_iff_iff]
  constructor
  · intro h
    unfold paIsB
    rw [List.all_eq_true]
    intro x hx
    rw [List.all_eq_true]
    intro y hy
    obtain ⟨hx0, hx1⟩ := hcl x hx
    obtain ⟨hy0, hy1⟩ := hcl y (List.mem_filter.1 hy).1
    obtain ⟨c, hc9, hxc⟩ := col_of hc (cellsL_mem.1 hx)
    obtain ⟨d, hd9, hyd⟩ := col_of hc (cellsL_mem.1 (List.mem_filter.1 hy).1)
    have hxl : x.toNat < cs.length := by have := (hasB_iff.1 (cellsL_mem.1 hx)).1; omega
    have hyl : y.toNat < cs.length := by have := (hasB_iff.1 (cellsL_mem.1 (List.mem_filter.1 hy).1)).1; omega
    rw [cAt, cAt, List.getD_eq_getElem?_getD, List.getD_eq_getElem?_getD, hxc, hyd]
    have hf := List.all_eq_true.1 h c (by simpa using hc9)
    have hz := List.all_eq_true.1 hf x (bitsL_mem.2 ⟨hx0, hx1, paintN_test.2 ⟨hxl, hxc⟩⟩)
    rw [gl_near hx0 hx1 hx] at hz
    have hz0 : nearS W H xs a b x &&& paintN cs cs.length c = 0 := by simpa using hz
    simp only [Option.getD_some, Bool.not_eq_true', beq_eq_false_iff_ne, ne_eq]
    intro e
    have hb : (nearS W H xs a b x &&& paintN cs cs.length c).testBit y.toNat = true := by
      rw [Nat.testBit_and, (near_test (hnn x) hy0).2 hy, paintN_test.2 ⟨hyl, by rw [hyd, ← e]⟩]; rfl
    rw [hz0] at hb
    simp at hb
  · intro h
    rw [List.all_eq_true]
    intro c hc9
    unfold freeB
    rw [List.all_eq_true]
    intro x hx
    obtain ⟨hx0, hx1, hxt⟩ := bitsL_mem.1 hx
    obtain ⟨hxl, hxc⟩ := paintN_test.1 hxt
    have hxh := has_of_col hc hxc
    rw [show ((x.toNat : Nat) : Int) = x by omega] at hxh
    have hxm := cellsL_mem.2 hxh
    rw [gl_near hx0 hx1 hxm, beq_iff_eq]
    apply Nat.eq_of_testBit_eq
    intro i
    rw [Nat.zero_testBit, Nat.testBit_and, Bool.and_eq_false_iff]
    by_cases hn : (nearS W H xs a b x).testBit i = true
    · right
      rw [Bool.eq_false_iff]
      intro hp
      obtain ⟨hil, hic⟩ := paintN_test.1 hp
      have hil2 : ((i : Int)).toNat = i := by omega
      have hm : (i : Int) ∈ leapsL W H xs a b x := (near_test (hnn x) (by omega)).1 (by rw [hil2]; exact hn)
      have hq := List.all_eq_true.1 (List.all_eq_true.1 h x hxm) (i : Int) hm
      rw [cAt, cAt, List.getD_eq_getElem?_getD, List.getD_eq_getElem?_getD, hxc, hil2, hic] at hq
      simp at hq
    · left; simpa using hn

end Go.Proofs.YtmmlhbfekjbdpaaDoor
