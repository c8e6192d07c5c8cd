/-
  Guarded cells as lists; sets that are asked about.
-/
import Derived.Test.YtjplcnbifcpebaaDoorD5
import Derived.Test.YtjplcnbifcpebaaDoorD1
import Derived.Test.YtjplcnbifcpebaaDoorB9
import Derived.Test.YtjplcnbifcpebaaDoorB11
namespace Go.Proofs.YtjplcnbifcpebaaDoor
open Go.RowKit Go.Shelf

def glG (W H : Int) (xs : List Int) (a b : Int) : List Nat := gl W H xs a b (cellsL W H xs)
theorem glG_len (W H : Int) (xs : List Int) (a b : Int) : (glG W H xs a b).length = 65 := gl_len _ _ _ _ _ _
theorem cells_64 {W H : Int} {xs : List Int} (hg : goodB W H xs = true) : ∀ x ∈ cellsL W H xs, 0 ≤ x ∧ x < 64 := fun x hx => by
  have h1 := (hasB_iff.1 (cellsL_mem.1 hx)).1
  obtain ⟨hW, hH, _, _⟩ := goodB_iff.1 hg
  have := cells_le hW hH
  omega
theorem leaps_64 {W H a b x : Int} {xs : List Int} (hg : goodB W H xs = true) : ∀ y ∈ leapsL W H xs a b x, 0 ≤ y ∧ y < 64 := fun y hy => cells_64 hg y (List.mem_filter.1 hy).1
theorem glG_lt {W H a b : Int} {xs : List Int} (hg : goodB W H xs = true) : ∀ x ∈ glG W H xs a b, x < 18446744073709551616 := by
  intro x hx
  rw [glG, gl, List.mem_cons, List.mem_map] at hx
  rcases hx with rfl | ⟨c, _, rfl⟩
  · exact set_lt (cells_64 hg)
  · split
    · exact set_lt (leaps_64 hg)
    · decide
theorem glG_at {W H a b x : Int} {xs : List Int} (h0 : 0 ≤ x) (h1 : x < 64) (hx : x ∈ cellsL W H xs) : (glG W H xs a b).getD (1 + x.toNat) 0 = nearS W H xs a b x := by
  rw [glG, gl, show 1 + x.toNat = x.toNat + 1 by omega, List.getD_cons_succ, List.getD_eq_getElem?_getD, List.getElem?_map, List.getElem?_range (by omega)]
  simp [show ((x.toNat : Nat) : Int) = x by omega, hx]
theorem near_bit {W H a b x : Int} {xs : List Int} (hg : goodB W H xs = true) (i : Nat) : (nearS W H xs a b x).testBit i = true ↔ hasB W H xs (i : Int) = true ∧ leapB W a b x (i : Int) = true := by
  rw [nearS, setBits_test _ _ _ rfl, List.mem_map]
  constructor
  · rintro ⟨y, hy, e⟩
    have h1 := leaps_64 hg y hy
    rw [leapsL, List.mem_filter, cellsL_mem] at hy
    rw [show (i : Int) = y by omega]
    exact hy
  · rintro ⟨h1, h2⟩
    exact ⟨(i : Int), by rw [leapsL, List.mem_filter, cellsL_mem]; exact ⟨h1, h2⟩, by omega⟩
theorem has_64 {W H x : Int} {xs : List Int} (hg : goodB W H xs = true) (h : hasB W H xs x = true) : 0 ≤ x ∧ x < 64 := cells_64 hg x (cellsL_mem.2 h)

/-- The cells that some cells guard. -/
def guardL (W H : Int) (xs : List Int) (a b : Int) (ps : List Int) : List Int := (cellsL W H xs).filter fun c => ps.contains c || ps.any fun f => leapB W a b f c
theorem guard_bit {W H a b : Int} {xs ps : List Int} (hg : goodB W H xs = true) (hp : ∀ x ∈ ps, hasB W H xs x = true) (i : Nat) :
    (grdL (glG W H xs a b) ps).testBit i = true ↔ hasB W H xs (i : Int) = true ∧ ((i : Int) ∈ ps ∨ ∃ f ∈ ps, leapB W a b f (i : Int) = true) := by
  rw [grdL_bit]
  constructor
  · rintro ⟨x, hx, h⟩
    have h64 := has_64 hg (hp x hx)
    rw [grdC_bit, glG_at h64.1 h64.2 (cellsL_mem.2 (hp x hx)), near_bit hg] at h
    rcases h with h | h
    · exact ⟨h.1, .inr ⟨x, hx, h.2⟩⟩
    · have : (i : Int) = x := by omega
      rw [this]
      exact ⟨hp x hx, .inl hx⟩
  · rintro ⟨h, (hm | ⟨f, hf, hl⟩)⟩
    · exact ⟨(i : Int), hm, by rw [grdC_bit]; right; omega⟩
    · have h64 := has_64 hg (hp f hf)
      exact ⟨f, hf, by rw [grdC_bit, glG_at h64.1 h64.2 (cellsL_mem.2 (hp f hf)), near_bit hg]; exact .inl ⟨h, hl⟩⟩
theorem guard_bits {W H a b : Int} {xs ps : List Int} (hg : goodB W H xs = true) (hp : ∀ x ∈ ps, hasB W H xs x = true) : bitsL (grdL (glG W H xs a b) ps) = guardL W H xs a b ps := by
  refine rise_unique (bitsL_rise _) ((cellsL_rise W H xs).filter _) fun x => ?_
  rw [bitsL_mem, guardL, List.mem_filter, cellsL_mem]
  constructor
  · rintro ⟨h0, h1, h2⟩
    rw [guard_bit hg hp, show ((x.toNat : Nat) : Int) = x by omega] at h2
    exact ⟨h2.1, by simpa using h2.2⟩
  · rintro ⟨h1, h2⟩
    have h64 := has_64 hg h1
    refine ⟨h64.1, h64.2, ?_⟩
    rw [guard_bit hg hp, show ((x.toNat : Nat) : Int) = x by omega]
    exact ⟨h1, by simpa using h2⟩
theorem setB_facts {W H : Int} {xs ps : List Int} (h : setB W H xs ps = true) : (∀ x ∈ ps, hasB W H xs x = true) ∧ ps.Pairwise (· < ·) :=
  ⟨fun x hx => ((setGo_facts ps _ h).1 x hx).2, (setGo_facts ps _ h).2⟩
theorem setB_bits {W H : Int} {xs ps : List Int} (hg : goodB W H xs = true) (h : setB W H xs ps = true) : bitsL (setBits (ps.map Int.toNat)) = ps :=
  set_bits (setB_facts h).2 (fun x hx => has_64 hg ((setB_facts h).1 x hx))
def askB (W H : Int) (xs : List Int) (a b : Int) (ps : List Int) : Bool := twoV W H xs a b && setB W H xs ps
theorem ask_parts {W H a b : Int} {xs ps : List Int} (h : askB W H xs a b ps = true) : goodB W H xs = true ∧ leaperB a b = true ∧ setB W H xs ps = true := by
  simp only [askB, twoV, Bool.and_eq_true] at h
  exact ⟨h.1.1, h.1.2, h.2⟩

set_option maxRecDepth 100000 in
theorem isSetOn_any (W H : Int) (A : Option Addr) (n c : Nat) (xs : List Int) (a b : Int) (A2 : Option Addr) (m c2 : Nat) (ps : List Int) (w : World) (ha : Rd w A n xs) (hp : Rd w A2 m ps) :
    Calls Tryd.prog 24 #[brd W H A n c, lpr a b, .slice A2 m c2] w fun e w' => e = .returned (.bool (askB W H xs a b ps)) ∧ Below w.heap.size w w' := by
  cases ht : twoV W H xs a b with
  | true =>
    have HG := Lib.hid (two_gK ht)
    go_enter Tryd.func24, Tryd.ntmps24
    go_wp2_with fail
    refine (isOnE_any W H A n c xs a b _ ((ha.alloc _).alloc _)).mono ?_
    rw [ht]
    rintro e wv ⟨rfl, hb⟩
    have hbx0 := below_box hb
    have a0 : wv.cell? ⟨w.heap.size, 0, none⟩ = some (.int .i64 W) := by simpa using newbox hbx0 0
    have a1 : wv.cell? ⟨w.heap.size, 1, none⟩ = some (.int .i64 H) := by simpa using newbox hbx0 1
    have a2 : wv.cell? ⟨w.heap.size, 2, none⟩ = some (.slice A n c) := by simpa using newbox hbx0 2
    have B := Lib.hid (below_box hbx0)
    have HT := Lib.hid ht
    clear hb hbx0 ht
    go_wp2_with fail
    refine (isSet_any W H A n c xs A2 m c2 ps _ (ha.keep B.out) (hp.keep B.out) HG.out).mono ?_
    rintro e wv ⟨rfl, hb⟩
    replace B := Lib.hid (below_next B.out hb)
    clear hb
    go_wp2
    go_ret
    exact ⟨by rw [askB, HT.out, Bool.true_and]; rfl, B.out⟩
  | false =>
    go_enter Tryd.func24, Tryd.ntmps24
    go_wp2_with fail
    refine (isOnE_any W H A n c xs a b _ ((ha.alloc _).alloc _)).mono ?_
    rw [ht]
    rintro e wv ⟨rfl, hb⟩
    have B := Lib.hid (below_box (below_box hb))
    clear hb
    go_wp2
    go_ret
    exact ⟨by rw [askB, ht, Bool.false_and]; rfl, B.out⟩

set_option maxRecDepth 100000 in
theorem guAsked_any (W H : Int) (A : Option Addr) (n c : Nat) (xs : List Int) (a b : Int) (A2 : Option Addr) (m c2 : Nat) (ps : List Int) (w : World) (ha : Rd w A n xs) (hp : Rd w A2 m ps) :
    Calls Tryd.prog 22 #[brd W H A n c, lpr a b, .slice A2 m c2] w fun e w' => e = .returned (.bool (askB W H xs a b ps)) ∧ Below w.heap.size w w' := by
  cases ht : twoV W H xs a b with
  | true =>
    have HG := Lib.hid (two_gK ht)
    go_enter Tryd.func22, Tryd.ntmps22
    go_wp2_with fail
    refine (boTwo_any W H A n c xs a b _ ((ha.alloc _).alloc _)).mono ?_
    rw [show (goodB W H xs && leaperB a b) = true from ht]
    rintro e wv ⟨rfl, hb⟩
    have hbx0 := below_box hb
    have a0 : wv.cell? ⟨w.heap.size, 0, none⟩ = some (.int .i64 W) := by simpa using newbox hbx0 0
    have a1 : wv.cell? ⟨w.heap.size, 1, none⟩ = some (.int .i64 H) := by simpa using newbox hbx0 1
    have a2 : wv.cell? ⟨w.heap.size, 2, none⟩ = some (.slice A n c) := by simpa using newbox hbx0 2
    have B := Lib.hid (below_box hbx0)
    have HT := Lib.hid ht
    clear hb hbx0 ht
    go_wp2_with fail
    refine (guSet_any W H A n c xs A2 m c2 ps _ (ha.keep B.out) (hp.keep B.out) HG.out).mono ?_
    rintro e wv ⟨rfl, hb⟩
    replace B := Lib.hid (below_next B.out hb)
    clear hb
    go_wp2
    go_ret
    exact ⟨by rw [askB, HT.out, Bool.true_and]; rfl, B.out⟩
  | false =>
    go_enter Tryd.func22, Tryd.ntmps22
    go_wp2_with fail
    refine (boTwo_any W H A n c xs a b _ ((ha.alloc _).alloc _)).mono ?_
    rw [show (goodB W H xs && leaperB a b) = false from ht]
    rintro e wv ⟨rfl, hb⟩
    have B := Lib.hid (below_box (below_box hb))
    clear hb
    go_wp2
    go_ret
    exact ⟨by rw [askB, ht, Bool.false_and]; rfl, B.out⟩
end Go.Proofs.YtjplcnbifcpebaaDoor
