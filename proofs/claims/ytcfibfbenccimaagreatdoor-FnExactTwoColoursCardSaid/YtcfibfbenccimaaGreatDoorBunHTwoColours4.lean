/-
  Contracts: whether all of these cells are there (slices.ContainsFunc with a closure), a leaper on a board with these cells.
  Contracts: walks.
  Memory words: a row of elements of k cells that the call owns.
  Memory words: a row of the call's own in the library's sort's words.
  Memory words: rows of pairs that the call owns: a store, a cut, cells cleared.
  DERIVED: THE SHELF's CONTRACTS AT THIS DUMP, IN PLAIN WORDS (tools/lay-plain.mjs out of 'TryzSortfShelf.lean', which tools/lay-shelf.mjs wrote): THE SAME DECLARATIONS UNDER THE SAME NAMES: 'import', 'namespace', 'open', 'def', 'theorem' AND NOTHING ELSE: no command of the shelf's: FOR A HAND-IN. Each laying: the table of numbers ('.._ren') and one theorem, a field a fact of the dump's own or the kernel's comparison; each contract: ONE APPLICATION.
  Contracts: spots compared.
  Contracts: slices.Compact at spots.
  Contracts: the steps of a leaper, in the program.
  Contracts: the steps of a leaper, in the program.
-/
import Derived.Test.YtcfibfbenccimaaGreatDoorBunHTwoColours2
import Derived.Test.YtcfibfbenccimaaGreatDoorBunHTwoColours3
import Derived.Test.YtcfibfbenccimaaGreatDoorBunHTwoColours1
import Derived.Laws.OwnMore
import Derived.Shelf.GgSortFunc.InsertionK
import Derived.Lib.SliceRun
import Derived.Shelf.SlSortCmp.WholeK
import Derived.Ground.SlsfProg
import Derived.Test.YtcfibfbenccimaaGreatDoorProg
import Derived.Deep.RegionHeld3
import Derived.Outline
import Derived.Lib.SlicesCompact
import Derived.Laws.StructEq
namespace Go.Proofs.YtcfibfbenccimaaGreatDoor
open Go.RowKit

/-- The board's box, which a closure reads. -/
def BrdAt (w : World) (g : Nat) (W H : Int) (A : Option Addr) (n c : Nat) : Prop := w.cell? ⟨g, 0, none⟩ = some (.int .i64 W) ∧ w.cell? ⟨g, 1, none⟩ = some (.int .i64 H) ∧ w.cell? ⟨g, 2, none⟩ = some (.slice A n c) ∧ g < w.heap.size
theorem BrdAt.keep {w w' : World} {g : Nat} {W H : Int} {A : Option Addr} {n c : Nat} (h : BrdAt w g W H A n c) (hb : Below w.heap.size w w') : BrdAt w' g W H A n c :=
  ⟨cell_keep h.1 h.2.2.2 hb, cell_keep h.2.1 h.2.2.2 hb, cell_keep h.2.2.1 h.2.2.2 hb, lt_keep h.2.2.2 hb⟩
def onK (W H : Int) (xs : List Int) (a b : Int) (ps : List Int) : Bool := twoV W H xs a b && ps.all (hasB W H xs)

set_option maxHeartbeats 1000000 in
theorem notThere_any (g : Nat) (W H : Int) (A : Option Addr) (n c : Nat) (xs : List Int) (q : Int) (w : World) (hat : BrdAt w g W H A n c) (ha : Rd w A n xs) (hg : goodB W H xs = true) :
    Calls Tryz.prog 80 #[.int .i64 q, .pointer (some ⟨g, 0, none⟩)] w fun e w' => e = .returned (.bool (!hasB W H xs q)) ∧ Below w.heap.size w w' := by
  obtain ⟨b0, b1, b2, bl⟩ := hat
  have HG := Lib.hid hg; have HA := Lib.hid ha
  clear hg ha
  go_enter Tryz.func80, Tryz.ntmps80
  go_wp2_with fail
  refine (isThere_any W H A n c q xs _ HA.out HG.out).mono ?_
  rintro e wv ⟨rfl, hb⟩
  go_wp2
  go_ret
  exact ⟨rfl, hb⟩

set_option maxRecDepth 100000 in
set_option maxHeartbeats 2000000 in
theorem indexThere_any (g : Nat) (W H : Int) (A : Option Addr) (n c : Nat) (xs : List Int) (A2 : Option Addr) (m c2 : Nat) (ps : List Int) (w : World) (hat : BrdAt w g W H A n c) (ha : Rd w A n xs) (hp : Rd w A2 m ps) (hg : goodB W H xs = true) :
    Calls Tryz.prog 93 #[.slice A2 m c2, .func (.func 80) #[] #[.pointer (some ⟨g, 0, none⟩)]] w fun e w' => ∃ r : Int, e = .returned (.int .i64 r) ∧ -1 ≤ r ∧ decide (0 ≤ r) = (!ps.all (hasB W H xs)) ∧ Below w.heap.size w w' := by
  have HAT := Lib.hid hat; have HA := Lib.hid ha; have HP := Lib.hid hp; have HG := Lib.hid hg
  have HPL := Lib.hid hp.1
  have m9 := hp.2.1
  clear hat ha hp hg
  go_enter Tryz.func93, Tryz.ntmps93
  go_wp2
  go_loopw [8] (fun i wr => ∃ k : Nat, k ≤ m ∧ i = .int .i64 k ∧ (ps.take k).all (hasB W H xs) = true ∧ Below w.heap.size w wr) (fun i _ => m - (intOf i).toNat)
  case atStart => exact ⟨0, Nat.zero_le _, rfl, by simp, Below.refl _ _⟩
  case round =>
    obtain ⟨k, hk, rfl, hno, hbw⟩ := hrel
    have HNO := Lib.hid hno
    have HB := Lib.hid hbw
    clear hno
    by_cases hlt : k < m
    · obtain ⟨bb, oo, x, rfl, hg1, hx, x0⟩ := HP.out.at_ hlt
      have HX := Lib.hid hx
      replace x0 := cell_keep x0 hg1 hbw
      have hK := notThere_any g W H A n c xs x wr (HAT.out.keep hbw) (HA.out.keep hbw) HG.out
      clear hx hbw hg1
      cases hsm : hasB W H xs x with
      | true =>
        have HS := Lib.hid hsm
        go_wp2_with fail
        refine hK.mono ?_
        rw [hsm]
        rintro e wv ⟨rfl, hb⟩
        replace HB := Lib.hid (HB.out.trans (hb.mono HB.out.size))
        clear hb hK hsm x0
        go_wp2
        go_roundw
        case rel => exact ⟨k + 1, by omega, by go_num, by rw [List.take_add_one, HX.out, List.all_append, HNO.out]; simp [HS.out], HB.out⟩
        case measure => simp [intOf]; omega
      | false =>
        have HS := Lib.hid hsm
        go_wp2_with fail
        refine hK.mono ?_
        rw [hsm]
        rintro e wv ⟨rfl, hb⟩
        replace HB := Lib.hid (HB.out.trans (hb.mono HB.out.size))
        clear hb hK hsm x0
        go_wp2
        go_ret
        exact ⟨(k : Int), rfl, by omega, by rw [show ps.all (hasB W H xs) = false from List.all_eq_false.2 ⟨x, List.mem_of_getElem? HX.out, by simp [HS.out]⟩]; simp, HB.out⟩
    · have hkn : k = m := by omega
      subst hkn
      clear hbw
      go_wp2
      go_ret
      exact ⟨-1, rfl, by omega, by have h := HNO.out; rw [List.take_of_length_le (by have := HPL.out; omega)] at h; rw [h]; simp, HB.out⟩

set_option maxRecDepth 100000 in
set_option maxHeartbeats 2000000 in
theorem containsThere_any (g : Nat) (W H : Int) (A : Option Addr) (n c : Nat) (xs : List Int) (A2 : Option Addr) (m c2 : Nat) (ps : List Int) (w : World) (hat : BrdAt w g W H A n c) (ha : Rd w A n xs) (hp : Rd w A2 m ps) (hg : goodB W H xs = true) :
    Calls Tryz.prog 79 #[.slice A2 m c2, .func (.func 80) #[] #[.pointer (some ⟨g, 0, none⟩)]] w fun e w' => e = .returned (.bool (!ps.all (hasB W H xs))) ∧ Below w.heap.size w w' := by
  have hI := indexThere_any g W H A n c xs A2 m c2 ps w hat ha hp hg
  clear hat ha hp hg
  go_enter Tryz.func79, Tryz.ntmps79
  go_wp2_with fail
  refine hI.mono ?_
  rintro e wv ⟨r, rfl, hr1, hr3, hb⟩
  have HR := Lib.hid hr3
  clear hI hr3
  go_wp2
  go_ret
  exact ⟨ret_bool (by rw [← HR.out]), hb⟩

set_option maxRecDepth 100000 in
set_option maxHeartbeats 2000000 in
theorem areThere_any (W H : Int) (A : Option Addr) (n c : Nat) (xs : List Int) (A2 : Option Addr) (m c2 : Nat) (ps : List Int) (w : World) (ha : Rd w A n xs) (hp : Rd w A2 m ps) (hg : goodB W H xs = true) :
    Calls Tryz.prog 59 #[brd W H A n c, .slice A2 m c2] w fun e w' => e = .returned (.bool (ps.all (hasB W H xs))) ∧ Below w.heap.size w w' := by
  obtain ⟨W2, hW2⟩ : ∃ W2, W2 = w.alloc (.cells #[.int .i64 W, .int .i64 H, .slice A n c] 30) := ⟨_, rfl⟩
  have hat : BrdAt W2 w.heap.size W H A n c := by rw [hW2]; exact ⟨by go_simp, by go_simp, by go_simp, by simp⟩
  have B := Lib.hid (show Below w.heap.size w W2 by rw [hW2]; exact below_new (Below.refl _ _) _)
  have hC := containsThere_any w.heap.size W H A n c xs A2 m c2 ps W2 hat (ha.keep B.out) (hp.keep B.out) hg
  clear hat ha hp hg
  go_enter Tryz.func59, Tryz.ntmps59
  go_wp2_with fail
  rw [← hW2]
  clear hW2
  refine hC.mono ?_
  rintro e wv ⟨rfl, hb⟩
  replace B := Lib.hid (below_next B.out hb)
  clear hC hb
  go_wp2
  go_ret
  exact ⟨ret_bool (by simp), B.out⟩

set_option maxRecDepth 100000 in
set_option maxHeartbeats 2000000 in
theorem isLeaperOnK_any (W H : Int) (A : Option Addr) (n c : Nat) (xs : List Int) (a b : Int) (A2 : Option Addr) (m c2 : Nat) (ps : List Int) (w : World) (ha : Rd w A n xs) (hp : Rd w A2 m ps) :
    Calls Tryz.prog 31 #[brd W H A n c, lpr a b, .slice A2 m c2] w fun e w' => e = .returned (.bool (onK W H xs a b ps)) ∧ Below w.heap.size w w' := by
  obtain ⟨W2, hW2⟩ : ∃ W2, W2 = (w.alloc (.cells #[.int .i64 W, .int .i64 H, .slice A n c] 30)).alloc (.cells #[.int .i64 a, .int .i64 b] 32) := ⟨_, rfl⟩
  have a0 : W2.cell? ⟨w.heap.size, 0, none⟩ = some (.int .i64 W) := by rw [hW2]; go_simp
  have a1 : W2.cell? ⟨w.heap.size, 1, none⟩ = some (.int .i64 H) := by rw [hW2]; go_simp
  have a2 : W2.cell? ⟨w.heap.size, 2, none⟩ = some (.slice A n c) := by rw [hW2]; go_simp
  have l0 : W2.cell? ⟨w.heap.size + 1, 0, none⟩ = some (.int .i64 a) := by rw [hW2]; go_simp
  have l1 : W2.cell? ⟨w.heap.size + 1, 1, none⟩ = some (.int .i64 b) := by rw [hW2]; go_simp
  have al : w.heap.size < W2.heap.size := by rw [hW2]; simp; omega
  have B := Lib.hid (show Below w.heap.size w W2 by rw [hW2]; exact below_new (below_new (Below.refl _ _) _) _)
  have R := Lib.hid (ha.keep B.out); have RP := Lib.hid (hp.keep B.out)
  clear ha hp
  cases hl : leaperB a b with
  | true =>
    have HL := Lib.hid hl
    clear hl
    cases hg : goodB W H xs with
    | true =>
      have HG := Lib.hid hg
      clear hg
      go_enter Tryz.func31, Tryz.ntmps31
      go_wp2_with fail
      rw [← hW2]
      clear hW2
      refine (isLeaper_any _ _ _).mono ?_
      rw [HL.out]
      rintro e wv ⟨rfl, hb⟩
      replace a0 := cell_keep a0 al hb; replace a1 := cell_keep a1 al hb; replace a2 := cell_keep a2 al hb; replace al := lt_keep al hb
      replace R := Lib.hid (R.out.keep hb); replace RP := Lib.hid (RP.out.keep hb)
      replace B := Lib.hid (below_next B.out hb)
      clear hb l0 l1
      go_wp2_with fail
      refine (isBoard_any _ _ _ _ _ _ _ R.out).mono ?_
      rw [HG.out]
      rintro e wv ⟨rfl, hb⟩
      replace a0 := cell_keep a0 al hb; replace a1 := cell_keep a1 al hb; replace a2 := cell_keep a2 al hb; replace al := lt_keep al hb
      replace R := Lib.hid (R.out.keep hb); replace RP := Lib.hid (RP.out.keep hb)
      replace B := Lib.hid (below_next B.out hb)
      clear hb
      go_wp2_with fail
      refine (areThere_any _ _ _ _ _ _ _ _ _ _ _ R.out RP.out HG.out).mono ?_
      rintro e wv ⟨rfl, hb⟩
      replace B := Lib.hid (below_next B.out hb)
      clear hb a0 a1 a2 al
      go_wp2
      go_ret
      exact ⟨ret_bool (by rw [onK, twoV, HL.out, HG.out]; simp), B.out⟩
    | false =>
      have HG := Lib.hid hg
      clear hg
      go_enter Tryz.func31, Tryz.ntmps31
      go_wp2_with fail
      rw [← hW2]
      clear hW2
      refine (isLeaper_any _ _ _).mono ?_
      rw [HL.out]
      rintro e wv ⟨rfl, hb⟩
      replace a0 := cell_keep a0 al hb; replace a1 := cell_keep a1 al hb; replace a2 := cell_keep a2 al hb; replace al := lt_keep al hb
      replace R := Lib.hid (R.out.keep hb); replace RP := Lib.hid (RP.out.keep hb)
      replace B := Lib.hid (below_next B.out hb)
      clear hb l0 l1
      go_wp2_with fail
      refine (isBoard_any _ _ _ _ _ _ _ R.out).mono ?_
      rw [HG.out]
      rintro e wv ⟨rfl, hb⟩
      replace B := Lib.hid (below_next B.out hb)
      clear hb a0 a1 a2 al
      go_wp2
      go_ret
      exact ⟨ret_bool (by rw [onK, twoV, HG.out]; simp), B.out⟩
  | false =>
    have HL := Lib.hid hl
    clear hl
    go_enter Tryz.func31, Tryz.ntmps31
    go_wp2_with fail
    rw [← hW2]
    clear hW2
    refine (isLeaper_any _ _ _).mono ?_
    rw [HL.out]
    rintro e wv ⟨rfl, hb⟩
    replace B := Lib.hid (below_next B.out hb)
    clear hb a0 a1 a2 al l0 l1
    go_wp2
    go_ret
    exact ⟨ret_bool (by rw [onK, twoV, HL.out]; simp), B.out⟩
theorem isOn0_any (W H : Int) (A : Option Addr) (n c : Nat) (xs : List Int) (a b : Int) (w : World) (ha : Rd w A n xs) :
    Calls Tryz.prog 31 #[brd W H A n c, lpr a b, .slice none 0 0] w fun e w' => e = .returned (.bool (twoV W H xs a b)) ∧ Below w.heap.size w w' := by
  have h := isLeaperOnK_any W H A n c xs a b none 0 0 [] w ha (Rd.nil w none)
  rw [show onK W H xs a b [] = twoV W H xs a b by simp [onK]] at h
  exact h
end Go.Proofs.YtcfibfbenccimaaGreatDoor

namespace Go.Proofs.YtcfibfbenccimaaGreatDoor
open Go.RowKit

theorem goes_all {W H a b : Int} {hs : List Int} : ∀ (ps : List Int) (p : Option Int), goesB W H hs a b p ps = true → ∀ x ∈ ps, hasB W H hs x = true
  | [], _, _, x, h => by cases h
  | c :: t, p, h, x, hx => by
    simp only [goesB, Bool.and_eq_true] at h
    rcases List.mem_cons.1 hx with rfl | h1
    · exact h.1.1
    · exact goes_all t _ h.2 x h1
theorem path_has {W H a b : Int} {hs ps : List Int} (h : pathB W H hs a b ps = true) : ∀ x ∈ ps, hasB W H hs x = true := by
  simp only [pathB, Bool.and_eq_true] at h
  exact goes_all ps none h.2
theorem path_len {W H a b : Int} {hs ps : List Int} (h : pathB W H hs a b ps = true) : 1 ≤ ps.length ∧ ps.length ≤ 64 := by
  simp only [pathB, Bool.and_eq_true, decide_eq_true_eq] at h
  exact h.1
theorem path_64 {W H a b : Int} {hs ps : List Int} (hg : goodB W H hs = true) (h : pathB W H hs a b ps = true) : ∀ x ∈ ps, 0 ≤ x ∧ x < 64 := by
  intro x hx
  have h1 := (hasB_iff.1 (path_has h x hx)).1
  obtain ⟨hW, hH, _, _⟩ := goodB_iff.1 hg
  have := cells_le hW hH
  omega
def walkB (W H : Int) (hs : List Int) (a b : Int) (ps : List Int) : Bool := pathB W H hs a b ps && decide ps.Nodup
def tourB (W H : Int) (hs : List Int) (a b : Int) (ps : List Int) : Bool := walkB W H hs a b ps && decide (ps.length = (cellsL W H hs).length)
def closedB (W H : Int) (hs : List Int) (a b : Int) (ps : List Int) : Bool := decide (3 ≤ ps.length) && tourB W H hs a b ps && leapB W a b (ps.getD (ps.length - 1) 0) (ps.getD 0 0)
theorem two_gK {W H a b : Int} {xs : List Int} (h : twoV W H xs a b = true) : goodB W H xs = true := by simp only [twoV, Bool.and_eq_true] at h; exact h.1
theorem nodup_snoc {ps : List Int} {k : Nat} {x : Int} (hx : ps[k]? = some x) (h : (ps.take k).Nodup) (hn : (ps.take k).contains x = false) : (ps.take (k + 1)).Nodup := by
  rw [List.take_add_one, hx]
  simp only [List.contains_eq_mem, decide_eq_false_iff_not] at hn
  rw [List.nodup_append]
  refine ⟨h, by simp, fun y hy z hz e => ?_⟩
  have : z = x := by simpa using hz
  exact hn (this ▸ e ▸ hy)
theorem nodup_hit {ps : List Int} {k : Nat} {x : Int} (hx : ps[k]? = some x) (hn : (ps.take k).contains x = true) : ¬ ps.Nodup := by
  intro h
  have h2 : (ps.take (k + 1)).Nodup := h.sublist (List.take_sublist _ _)
  rw [List.take_add_one, hx, List.nodup_append] at h2
  simp only [List.contains_eq_mem, decide_eq_true_eq] at hn
  exact h2.2.2 x hn x (by simp) rfl
theorem nodup_map {ps : List Int} (h : ∀ x ∈ ps, 0 ≤ x ∧ x < 64) : (ps.map Int.toNat).Nodup ↔ ps.Nodup := by
  induction ps with
  | nil => simp
  | cons x t ih =>
    rw [List.map_cons, List.nodup_cons, List.nodup_cons, ih (fun y hy => h y (List.mem_cons_of_mem _ hy))]
    have : x.toNat ∈ t.map Int.toNat ↔ x ∈ t := by
      rw [List.mem_map]
      constructor
      · rintro ⟨y, hy, e⟩
        have h1 := h x List.mem_cons_self; have h2 := h y (List.mem_cons_of_mem _ hy)
        have : y = x := by omega
        exact this ▸ hy
      · intro hx; exact ⟨x, hx, rfl⟩
    rw [this]
/-- How many bits the set of a walk has. -/
theorem pop_walk {ps : List Int} (h : ∀ x ∈ ps, 0 ≤ x ∧ x < 64) : popN 64 (setBits (ps.map Int.toNat)) = ps.length ↔ ps.Nodup := by
  have := (popN_set _ (ps.map Int.toNat) rfl (fun c hc => by obtain ⟨y, hy, rfl⟩ := List.mem_map.1 hc; have := h y hy; omega)).2
  rw [List.length_map, nodup_map h] at this
  exact this
theorem set_lt {ps : List Int} (h : ∀ x ∈ ps, 0 ≤ x ∧ x < 64) : setBits (ps.map Int.toNat) < 18446744073709551616 := setBits_lt _ (fun c hc => by obtain ⟨y, hy, rfl⟩ := List.mem_map.1 hc; have := h y hy; omega)

theorem boTwoV_any (W H : Int) (A : Option Addr) (n c : Nat) (xs : List Int) (a b : Int) (w : World) (ha : Rd w A n xs) :
    Calls Tryz.prog 28 #[brd W H A n c, lpr a b] w fun e w' => e = .returned (.bool (twoV W H xs a b)) ∧ Below w.heap.size w w' := boTwo_any W H A n c xs a b w ha
end Go.Proofs.YtcfibfbenccimaaGreatDoor

namespace Go.Proofs.YtcfibfbenccimaaGreatDoor
open Go.RowKit

/-! ### A row of elements of k cells that the call owns -/
/-- The slice '.slice A n c' owns, in a block from lo on, the list xs of elements, each of k cells. -/
def OwnK {α : Type} (enc : α → List Value) (k : Nat) (E : TypeId) (w : World) (lo : Nat) (A : Option Addr) (n c : Nat) (xs : List α) : Prop := xs.length = n ∧ w.ownsRow lo E k (.slice A n c) n (xs.flatMap enc)

theorem flat_len {α : Type} {enc : α → List Value} {k : Nat} (hk : ∀ x, (enc x).length = k) (xs : List α) : (xs.flatMap enc).length = xs.length * k := by
  induction xs with
  | nil => simp
  | cons x t ih => rw [List.flatMap_cons, List.length_append, ih, hk, List.length_cons, Nat.add_mul, Nat.one_mul]; omega
theorem flat_at {α : Type} {enc : α → List Value} {k : Nat} (hk : ∀ x, (enc x).length = k) : ∀ (xs : List α) {i j : Nat} {x : α}, xs[i]? = some x → j < k → (xs.flatMap enc)[i * k + j]? = (enc x)[j]?
  | [], i, j, x, h, _ => by simp at h
  | y :: t, 0, j, x, h, hj => by
    simp at h; subst h
    rw [List.flatMap_cons, Nat.zero_mul, Nat.zero_add, List.getElem?_append_left (by rw [hk]; exact hj)]
  | y :: t, i + 1, j, x, h, hj => by
    rw [List.flatMap_cons, List.getElem?_append_right (by rw [hk, Nat.add_mul]; omega), hk, show (i + 1) * k + j - k = i * k + j by rw [Nat.add_mul]; omega]
    exact flat_at hk t (by simpa using h) hj
section
variable {α : Type} {enc : α → List Value} {k : Nat} {E : TypeId} {w w' : World} {lo : Nat} {A : Option Addr} {n c : Nat} {xs : List α}
theorem OwnK.len (h : OwnK enc k E w lo A n c xs) : xs.length = n := h.1
theorem OwnK.form (h : OwnK enc k E w lo A n c xs) : (A = none ∧ n = 0 ∧ c = 0 ∧ xs = []) ∨ ∃ g, A = some ⟨g, 0, none⟩ ∧ lo ≤ g ∧ g < w.heap.size ∧ n ≤ c ∧ c ≤ maxLen := by
  have hl := h.1
  rcases h.2.2 with ⟨hv, hn⟩ | ⟨g, cap, cur, hv, hb, hg, hnc, hm, _⟩
  · injection hv with h1 h2 h3
    subst hn
    exact .inl ⟨h1, rfl, h3, List.eq_nil_of_length_eq_zero hl⟩
  · injection hv with h1 h2 h3
    subst h3
    exact .inr ⟨g, h1, hb, (Array.getElem?_eq_some_iff.1 hg).1, hnc, hm⟩
theorem OwnK.some_ {i : Nat} (h : OwnK enc k E w lo A n c xs) (hi : i < n) : ∃ g, A = some ⟨g, 0, none⟩ ∧ lo ≤ g ∧ g < w.heap.size := by
  rcases h.form with ⟨_, h0, _⟩ | ⟨g, h1, h2, h3, _⟩
  · omega
  · exact ⟨g, h1, h2, h3⟩
/-- Element i's cell j. -/
theorem OwnK.cell {g i j : Nat} {x : α} {u : Value} (hk : ∀ x, (enc x).length = k) (h : OwnK enc k E w lo (some ⟨g, 0, none⟩) n c xs) (hx : xs[i]? = some x) (hu : (enc x)[j]? = some u) : w.cell? ⟨g, i * k + j, none⟩ = some u := by
  have hl := h.1
  have hi : i < n := by
    rcases Nat.lt_or_ge i xs.length with h' | h'
    · omega
    · rw [List.getElem?_eq_none h'] at hx; cases hx
  have hj : j < k := by
    rcases Nat.lt_or_ge j (enc x).length with h' | h'
    · rwa [hk] at h'
    · rw [List.getElem?_eq_none h'] at hu; cases hu
  have hb : i * k + j < n * k := by
    have := Nat.mul_le_mul_right k (show i + 1 ≤ n from hi); rw [Nat.add_mul, Nat.one_mul] at this; omega
  rw [World.ownsRow.cellAt h.2 _ hb, flat_at hk xs hx hj, hu]
theorem OwnK.frozen {g : Nat} (h : OwnK enc k E w lo (some ⟨g, 0, none⟩) n c xs) (j : Nat) : w.frozen? ⟨g, j, none⟩ = false := World.ownsRow.frozenAt h.2 j
theorem OwnK.keep (h : OwnK enc k E w lo A n c xs) (hb : Below w.heap.size w w') : OwnK enc k E w' lo A n c xs := by
  refine ⟨h.1, h.2.1, ?_⟩
  rcases h.2.2 with hn | ⟨g, cap, cur, hv, hlo, hg, r⟩
  · exact .inl hn
  · exact .inr ⟨g, cap, cur, hv, hlo, (hb.block g (Array.getElem?_eq_some_iff.1 hg).1).trans hg, r⟩
theorem OwnK.lower {lo' : Nat} (h : OwnK enc k E w lo A n c xs) (hl : lo' ≤ lo) : OwnK enc k E w lo' A n c xs := by
  refine ⟨h.1, h.2.1, ?_⟩
  rcases h.2.2 with hn | ⟨g, cap, cur, hv, hlo, hg, r⟩
  · exact .inl hn
  · exact .inr ⟨g, cap, cur, hv, Nat.le_trans hl hlo, hg, r⟩
theorem OwnK.alloc (h : OwnK enc k E w lo A n c xs) (o : Obj) : OwnK enc k E (w.alloc o) lo A n c xs := h.keep ((Below.refl _ _).alloc (Nat.le_refl _) o)
theorem OwnK.drewN (h : OwnK enc k E w lo A n c xs) (m : Nat) : OwnK enc k E (w.drewN m) lo A n c xs := h
theorem OwnK.drew1 (h : OwnK enc k E w lo A n c xs) : OwnK enc k E w.drew lo A n c xs := h
theorem OwnK.none_ (enc : α → List Value) (k : Nat) (E : TypeId) (w : World) (lo : Nat) : OwnK enc k E w lo none 0 0 [] := ⟨rfl, World.ownsRow_nil w lo E k⟩
theorem OwnK.other {row : Option Nat} (h : OwnK enc k E w lo A n c xs) (hg : w.grownBy w' row) (hne : ∀ a, A = some a → some a.block ≠ row) : OwnK enc k E w' lo A n c xs := by
  refine ⟨h.1, h.2.1, ?_⟩
  rcases h.2.2 with hn | ⟨g, cap, cur, hv, hlo, hgg, r⟩
  · exact .inl hn
  · refine .inr ⟨g, cap, cur, hv, hlo, ?_, r⟩
    injection hv with h1
    rw [hg.block g (Array.getElem?_eq_some_iff.1 hgg).1 (hne _ h1)]
    exact hgg
theorem OwnK.of_row {v : Value} (hxs : xs.length = n) (h : w.ownsRow lo E k v n (xs.flatMap enc)) : ∃ A c, v = .slice A n c ∧ OwnK enc k E w lo A n c xs := by
  have h2 := h.2
  rcases h2 with ⟨rfl, rfl⟩ | ⟨g, cap, cur, rfl, _⟩
  · exact ⟨none, 0, rfl, hxs, h⟩
  · exact ⟨_, cap, rfl, hxs, h⟩

/-- append of some elements onto a row of the call's own. -/
theorem wpList_appK {P : Program} {w : World} {ops : Array Oper} {rest : List Oper} {o : Oper} {a : Act} {Q : Exit → Act → World → Prop} (hgd : o.guard = none) (s x : Operand) (T : TypeId)
    (ho : o.op = .call { callee := .builtin .append, args := #[s, x], argTypes := #[T, T] }) (i0 : TypeInfo) (z : Value) (bytes : Nat)
    (hT : P.underlying T = some (.slice E)) (hi : P.info? E = some i0) (hz0 : i0.zero = some z) (hz1 : i0.size = k) (hz2 : i0.bytes = bytes) (hzs : z.cells.size = k) (hk0 : 0 < k) (hby : bytes ≤ 64)
    (hk : ∀ x, (enc x).length = k) (h1 : ∀ x, ∀ u ∈ enc x, u.oneCell' = true)
    (ys : List α) (ad : Addr) (m cy : Nat) (hs : a.eval s = .slice A n c) (hown : OwnK enc k E w lo A n c xs) (hx : a.eval x = .slice (some ad) m cy) (hm : ys.length = m)
    (hy : ∀ j u, (ys.flatMap enc)[j]? = some u → w.cell? (ad.add j) = some u)
    (hn : n + m ≤ 1000000) (hlo : lo ≤ w.heap.size)
    (h : ∀ A' c' w', OwnK enc k E w' lo A' (n + m) c' (xs ++ ys) → w.grownBy w' (match A with | some b => some b.block | none => none) → Below lo w w' → wpList P ops Q rest (a.put o.dst (.slice A' (n + m) c')) w') :
    wpList P ops Q (o :: rest) a w := by
  refine wpList_append_own w hgd s x T ho lo E i0 z k bytes hT hi hz0 hz1 hz2 hzs hk0 (.slice A n c) n (xs.flatMap enc) hs hown.2 ad m cy (ys.flatMap enc) hx (by rw [flat_len hk, hm]) hy ?_ (by unfold maxLen; omega) ?_ hlo ?_
  · intro u hu
    obtain ⟨y, _, hu⟩ := List.mem_flatMap.1 hu
    exact h1 y u hu
  · have := Nat.mul_le_mul hn hby; omega
  · intro v' w' hown' hgrow _
    rw [← List.flatMap_append] at hown'
    obtain ⟨A', c', rfl, hO⟩ := OwnK.of_row (by rw [List.length_append, hown.1, hm]) hown'
    refine h A' c' w' hO ?_ ((Below.refl _ _).grown hgrow hlo (fun k hk => (World.ownsRow.lt hown.2 k hk).1))
    rcases A with _ | b
    · exact hgrow
    · exact hgrow
end

end Go.Proofs.YtcfibfbenccimaaGreatDoor

namespace Go.Proofs.YtcfibfbenccimaaGreatDoor
open Go.RowKit Go.Lib Go.Sort Go.Shelf

/-! ### A row of the call's own in the sort's words -/
section
variable {α : Type} [Inhabited α] {enc : α → List Value} {k : Nat} {E : TypeId} {w : World} {lo g n c : Nat} {xs : List α}
theorem flat_flatK (hk : ∀ x, (enc x).length = k) (xs : List α) {t : Nat} (h : t < xs.length * k) : (xs.flatMap enc)[t]? = some ((flatK enc k xs.toArray)[t]!) := by
  have k0 : 0 < k := by
    rcases Nat.eq_zero_or_pos k with e | e
    · subst e; simp at h
    · exact e
  have hi : t / k < xs.length := Nat.div_lt_of_lt_mul (by rw [Nat.mul_comm]; exact h)
  have hj : t % k < k := Nat.mod_lt _ k0
  have hx : xs[t / k]? = some xs[t / k] := List.getElem?_eq_getElem hi
  have h1 := flat_at hk xs hx hj
  rw [show t / k * k + t % k = t by rw [Nat.mul_comm]; exact Nat.div_add_mod t k] at h1
  rw [h1, get_flatK enc k xs.toArray t (by simpa using h)]
  have e : xs.toArray[t / k]! = xs[t / k] := by rw [getElem!_pos xs.toArray (t / k) (by simpa using hi)]; simp
  rw [e, List.getElem?_eq_getElem (by rw [hk]; exact hj), getElem!_pos (enc xs[t / k]) (t % k) (by rw [hk]; exact hj)]
theorem OwnK.holds (hk : ∀ x, (enc x).length = k) (h : OwnK enc k E w lo (some ⟨g, 0, none⟩) n c xs) : HoldsK enc k w g 0 xs.toArray := by
  intro t ht
  rw [size_flatK] at ht
  have ht' : t < xs.length * k := by simpa using ht
  rw [Nat.zero_add]
  refine ⟨?_, h.frozen t⟩
  rw [World.ownsRow.cellAt h.2 t (by rw [← h.1]; exact ht'), flat_flatK hk xs ht']
  rfl
theorem OwnK.sorted (hk : ∀ x, (enc x).length = k) (h : OwnK enc k E w lo (some ⟨g, 0, none⟩) n c xs) (d : Array α) (hd : d.size = n) (m : Nat) (os : Array Obj) :
    OwnK enc k E (sortWorldK enc k w g 0 m d os) lo (some ⟨g, 0, none⟩) n c d.toList ∧ w.grownBy (sortWorldK enc k w g 0 m d os) (some g) := by
  obtain ⟨hl, hx, hr⟩ := h
  rcases hr with ⟨hv, _⟩ | ⟨g', cap, cur, hv, hlo, hg, hnc, hm, hcs, htake⟩
  · injection hv with h1; cases h1
  · injection hv with h1 h2 h3
    injection h1 with h1
    injection h1 with h1
    subst h1 h3
    have hglt := (Array.getElem?_eq_some_iff.1 hg).1
    have hheap : (sortWorldK enc k w g 0 m d os).heap = w.heap.modify g (onCells (putCells id 0 (flatK enc k d))) ++ os := rfl
    have hg' : (sortWorldK enc k w g 0 m d os).heap[g]? = some (.cells (putCells id 0 (flatK enc k d) cur) E (0, 0)) := by
      rw [hheap, Array.getElem?_append_left (by simpa using hglt), Array.getElem?_modify, if_pos rfl, hg]
      rfl
    refine ⟨⟨by simp [hd], by rw [flat_len hk]; simp [hd], .inr ⟨g, c, _, rfl, hlo, hg', hnc, hm, by simp [putCells, hcs], ?_⟩⟩, ⟨rfl, rfl, rfl, by rw [hheap]; simp, fun i hi hne => ?_⟩⟩
    · apply List.ext_getElem?
      intro t
      rw [List.getElem?_take]
      by_cases ht : t < n * k
      · have hdk : t < d.toList.length * k := by simpa [hd] using ht
        rw [if_pos ht, flat_flatK hk d.toList hdk]
        have hc : t < cur.size := by rw [hcs]; exact Nat.lt_of_lt_of_le ht (Nat.mul_le_mul_right k hnc)
        simp only [putCells, Array.getElem?_toList, Array.getElem?_mapIdx, Array.getElem?_eq_getElem hc, Option.map_some, size_flatK, hd]
        rw [if_pos ⟨by omega, by omega⟩]
        simp
      · rw [if_neg ht, List.getElem?_eq_none (by rw [flat_len hk]; simp [hd]; omega)]
    · rw [hheap, Array.getElem?_append_left (by simpa using hi), Array.getElem?_modify, if_neg (fun e => hne (by rw [e]))]
end

end Go.Proofs.YtcfibfbenccimaaGreatDoor

namespace Go.Proofs.YtcfibfbenccimaaGreatDoor
open Go.RowKit

def encP (p : Int × Int) : List Value := [.int .i64 p.1, .int .i64 p.2]
theorem encP_len (p : Int × Int) : (encP p).length = 2 := rfl
theorem encP_one (p : Int × Int) : ∀ u ∈ encP p, u.oneCell' = true := fun u hu => by simp [encP] at hu; rcases hu with rfl | rfl <;> rfl
abbrev OwnP (E : TypeId) (w : World) (lo : Nat) (A : Option Addr) (n c : Nat) (xs : List (Int × Int)) : Prop := OwnK encP 2 E w lo A n c xs

theorem flatP_set : ∀ (xs : List (Int × Int)) (i : Nat) (p : Int × Int), i < xs.length → ((xs.flatMap encP).set (i * 2) (.int .i64 p.1)).set (i * 2 + 1) (.int .i64 p.2) = (xs.set i p).flatMap encP
  | [], _, _, h => by simp at h
  | q :: t, 0, p, _ => by simp [encP]
  | q :: t, i + 1, p, h => by
    have ih := flatP_set t i p (by simpa using h)
    rw [List.set_cons_succ, List.flatMap_cons, List.flatMap_cons, ← ih]
    rw [List.set_append_right _ _ (by simp [encP]; omega), List.set_append_right _ _ (by simp [encP]; omega)]
    congr 3
    all_goals simp [encP]; omega
section
variable {E : TypeId} {w : World} {lo g n c : Nat} {xs : List (Int × Int)}
theorem OwnP.stored (h : OwnP E w lo (some ⟨g, 0, none⟩) n c xs) {i : Nat} (hi : i < n) (p : Int × Int) :
    OwnP E ((w.setCell ⟨g, i * 2, none⟩ (.int .i64 p.1)).setCell ⟨g, i * 2 + 1, none⟩ (.int .i64 p.2)) lo (some ⟨g, 0, none⟩) n c (xs.set i p) ∧ w.grownBy ((w.setCell ⟨g, i * 2, none⟩ (.int .i64 p.1)).setCell ⟨g, i * 2 + 1, none⟩ (.int .i64 p.2)) (some g) := by
  obtain ⟨h1, g1⟩ := World.ownsRow.stored h.2 (i * 2) (.int .i64 p.1)
  obtain ⟨h2, g2⟩ := World.ownsRow.stored h1 (i * 2 + 1) (.int .i64 p.2)
  rw [flatP_set xs i p (by rw [h.1]; exact hi)] at h2
  exact ⟨⟨by rw [List.length_set]; exact h.1, h2⟩, grown_next g1 g2⟩
theorem OwnK.cut {α : Type} {enc : α → List Value} {k : Nat} (hk : ∀ x, (enc x).length = k) {xs : List α} (h : OwnK enc k E w lo (some ⟨g, 0, none⟩) n c xs) {m : Nat} (hm : m ≤ n) : OwnK enc k E w lo (some ⟨g, 0, none⟩) m c (xs.take m) := by
  obtain ⟨hl, hx, hr⟩ := h
  have hlm : (xs.take m).length = m := by rw [List.length_take]; omega
  refine ⟨hlm, by rw [flat_len hk, hlm], ?_⟩
  rcases hr with ⟨hv, _⟩ | ⟨g', cap, cur, hv, hlo, hg, hnc, hcm, hcs, htake⟩
  · injection hv with h1; cases h1
  · injection hv with h1 h2 h3
    subst h3
    refine .inr ⟨g', c, cur, by rw [h1], hlo, hg, by omega, hcm, hcs, ?_⟩
    have e : (xs.take m).flatMap enc = (xs.flatMap enc).take (m * k) := by
      have e1 : xs.flatMap enc = (xs.take m).flatMap enc ++ (xs.drop m).flatMap enc := by rw [← List.flatMap_append, List.take_append_drop]
      have e2 : ((xs.take m).flatMap enc).length = m * k := by rw [flat_len hk, hlm]
      rw [e1, ← e2, List.take_left']
      rfl
    rw [e, ← htake, List.take_take, Nat.min_eq_left (Nat.mul_le_mul_right k hm)]
theorem OwnK.cells_behind {α : Type} {enc : α → List Value} {k : Nat} : ∀ (vs : List Value) (o : Nat) {w : World} {xs : List α}, (∀ x, (enc x).length = k) → OwnK enc k E w lo (some ⟨g, 0, none⟩) n c xs → n * k ≤ o →
    OwnK enc k E (w.setCells g o vs) lo (some ⟨g, 0, none⟩) n c xs ∧ w.grownBy (w.setCells g o vs) (some g)
  | [], _, _, _, _, h, _ => ⟨h, grown_refl _ _⟩
  | v :: vs, o, w, xs, hk, h, ho => by
    obtain ⟨h1, g1⟩ := World.ownsRow.stored h.2 o v
    rw [List.set_eq_of_length_le (by rw [flat_len hk, h.1]; exact ho)] at h1
    obtain ⟨h2, g2⟩ := OwnK.cells_behind vs (o + 1) hk ⟨h.1, h1⟩ (by omega)
    exact ⟨h2, grown_next g1 g2⟩
end

/-- 'clear(s)', s a slice of n > 0 pairs. -/
theorem run_clear_pairs {P : Program} (w : World) (t e ty : TypeId) (ht : P.underlying t = some (.slice e)) (hv : ∀ w, (zeroValue e).run P w = .ok (.agg #[.int .i64 0, .int .i64 0]) w) (b o n c : Nat) (hn : 0 < n)
    (hc : ∀ j, j < n * 2 → (w.cell? ⟨b, o + j, none⟩).isSome = true) (hf : ∀ j, j < n * 2 → w.frozen? ⟨b, o + j, none⟩ = false) :
    (Builtin.clear_ #[t] ty #[.slice (some ⟨b, o, none⟩) n c]).run P w = .ok (.tuple #[]) (w.setCells b o (List.replicate (n * 2) (.int .i64 0))) := by
  have hzc : (Builtin.zeroCells (Value.agg #[.int .i64 0, .int .i64 0]).cells n).toList = List.replicate (n * 2) (.int .i64 0) := by
    simp [Builtin.zeroCells, Value.cells]
    apply List.ext_getElem
    · simp
    · intro i h1 h2
      have : i % 2 = 0 ∨ i % 2 = 1 := by omega
      rcases this with h | h <;> simp [h]
  have hst := run_storeCells_cells (P := P) b o (List.replicate (n * 2) (.int .i64 0)) 0 w (by simpa using hc) (by simpa using hf) (by intro v hv'; rw [List.eq_of_mem_replicate hv']; rfl)
  simp only [Nat.add_zero] at hst
  obtain ⟨m, rfl⟩ : ∃ m, n = m + 1 := ⟨n - 1, by omega⟩
  simp [Builtin.clear_, run_underlying ht, hv, hzc, hst]

end Go.Proofs.YtcfibfbenccimaaGreatDoor

namespace Go.Proofs
open Go.Shelf
def Tryz.sortSpot_ren : Go.Shelf.Ren := ⟨fun | 6 => 110 | 15 => 100 | 14 => 128 | 28 => 123 | 29 => 124 | 20 => 136 | 21 => 137 | 22 => 138 | 23 => 139 | 24 => 140 | 25 => 141 | 26 => 142 | 27 => 143 | 46 => 145 | 47 => 132 | 48 => 133 | 49 => 146 | 50 => 147 | 57 => 148 | n => n, fun | 22 => 110 | 24 => 94 | 25 => 128 | 3 => 3 | 39 => 103 | 0 => 0 | 53 => 119 | 55 => 48 | 4 => 4 | 46 => 134 | 45 => 133 | 50 => 108 | 5 => 5 | 9 => 9 | 66 => 142 | 70 => 146 | 76 => 153 | 77 => 154 | n => n, fun | n => n⟩
theorem Tryz.sortSpot : Go.Proofs.SlLaysF0.n6 Tryz.prog Tryz.sortSpot_ren := {
  mixed := by kernel_rfl
  f6 := ⟨Tryz.f110.name, by decide, Tryz.func110.trans (congrArg some (by kernel_rfl))⟩
  f14 := ⟨Tryz.f128.name, by decide, Tryz.func128.trans (congrArg some (by kernel_rfl))⟩
  f15 := Tryz.func100.trans (congrArg some (by kernel_rfl))
  f20 := ⟨Tryz.f136.name, by decide, Tryz.func136.trans (congrArg some (by kernel_rfl))⟩
  f21 := ⟨Tryz.f137.name, by decide, Tryz.func137.trans (congrArg some (by kernel_rfl))⟩
  f22 := ⟨Tryz.f138.name, by decide, Tryz.func138.trans (congrArg some (by kernel_rfl))⟩
  f23 := ⟨Tryz.f139.name, by decide, Tryz.func139.trans (congrArg some (by kernel_rfl))⟩
  f24 := ⟨Tryz.f140.name, by decide, Tryz.func140.trans (congrArg some (by kernel_rfl))⟩
  f25 := ⟨Tryz.f141.name, by decide, Tryz.func141.trans (congrArg some (by kernel_rfl))⟩
  f26 := ⟨Tryz.f142.name, by decide, Tryz.func142.trans (congrArg some (by kernel_rfl))⟩
  f27 := ⟨Tryz.f143.name, by decide, Tryz.func143.trans (congrArg some (by kernel_rfl))⟩
  f28 := Tryz.func123.trans (congrArg some (by kernel_rfl))
  f29 := Tryz.func124.trans (congrArg some (by kernel_rfl))
  f46 := ⟨Tryz.f145.name, by decide, Tryz.func145.trans (congrArg some (by kernel_rfl))⟩
  f47 := Tryz.func132.trans (congrArg some (by kernel_rfl))
  f48 := Tryz.func133.trans (congrArg some (by kernel_rfl))
  f49 := ⟨Tryz.f146.name, by decide, Tryz.func146.trans (congrArg some (by kernel_rfl))⟩
  f50 := ⟨Tryz.f147.name, by decide, Tryz.func147.trans (congrArg some (by kernel_rfl))⟩
  f57 := ⟨Tryz.f148.name, by decide, Tryz.func148.trans (congrArg some (by kernel_rfl))⟩
  t0 := Tryz.underlying0
  a0 := Tryz.isAgg0
  z0 := Tryz.sizeOf0
  v0 := Tryz.zeroValue0
  t3 := Tryz.underlying3
  a3 := Tryz.isAgg3
  z3 := Tryz.sizeOf3
  v3 := Tryz.zeroValue3
  t4 := Tryz.underlying4
  a4 := Tryz.isAgg4
  z4 := Tryz.sizeOf4
  v4 := Tryz.zeroValue4
  t5 := Tryz.underlying5
  a5 := Tryz.isAgg5
  z5 := Tryz.sizeOf5
  v5 := Tryz.zeroValue5
  t9 := Tryz.underlying9
  a9 := Tryz.isAgg9
  z9 := Tryz.sizeOf9
  v9 := Tryz.zeroValue9
  t22 := Tryz.underlying110
  a22 := Tryz.isAgg110
  z22 := Tryz.sizeOf110
  v22 := Tryz.zeroValue110
  t25 := Tryz.underlying128
  a25 := Tryz.isAgg128
  z25 := Tryz.sizeOf128
  v25 := Tryz.zeroValue128
  t39 := Tryz.underlying103
  a39 := Tryz.isAgg103
  z39 := Tryz.sizeOf103
  v39 := Tryz.zeroValue103
  t45 := Tryz.underlying133
  a45 := Tryz.isAgg133
  z45 := Tryz.sizeOf133
  v45 := Tryz.zeroValue133
  t46 := Tryz.underlying134
  a46 := Tryz.isAgg134
  z46 := Tryz.sizeOf134
  v46 := Tryz.zeroValue134
  t50 := Tryz.underlying108
  a50 := Tryz.isAgg108
  z50 := Tryz.sizeOf108
  v50 := Tryz.zeroValue108
  t53 := Tryz.underlying119
  a53 := Tryz.isAgg119
  z53 := Tryz.sizeOf119
  v53 := Tryz.zeroValue119
  t55 := Tryz.underlying48
  a55 := Tryz.isAgg48
  z55 := Tryz.sizeOf48
  v55 := Tryz.zeroValue48
  t66 := Tryz.underlying142
  a66 := Tryz.isAgg142
  z66 := Tryz.sizeOf142
  v66 := Tryz.zeroValue142
  t70 := Tryz.underlying146
  a70 := Tryz.isAgg146
  z70 := Tryz.sizeOf146
  v70 := Tryz.zeroValue146
  t76 := Tryz.underlying153
  a76 := Tryz.isAgg153
  z76 := Tryz.sizeOf153
  v76 := Tryz.zeroValue153
  t77 := Tryz.underlying154
  a77 := Tryz.isAgg154
  z77 := Tryz.sizeOf154
  v77 := Tryz.zeroValue154 }
end Go.Proofs

namespace Go.Proofs.YtcfibfbenccimaaGreatDoor
open Go.RowKit

/-- A world with draws and blocks more. -/
def Grown (W w : World) : Prop := ∃ q os, w = Go.Sort.grow (W.drewN q) os
theorem Grown.refl (W : World) : Grown W W := ⟨0, #[], by simp; rfl⟩
theorem Grown.alloc {W w : World} (h : Grown W w) (o : Obj) : Grown W (w.alloc o) := by
  obtain ⟨q, os, rfl⟩ := h
  exact ⟨q, os ++ #[o], by rw [Go.Sort.alloc_eq_grow, Go.Sort.grow_grow]⟩
theorem Grown.drewN {W w : World} (h : Grown W w) (k : Nat) : Grown W (w.drewN k) := by
  obtain ⟨q, os, rfl⟩ := h
  exact ⟨q + k, os, by rw [← World.drewN_drewN]; rfl⟩
theorem Grown.drew1 {W w : World} (h : Grown W w) : Grown W w.drew := h.drewN 1

def cmpP (p q : Int × Int) : Int := if Lib.compareInt p.1 q.1 = 0 then Lib.compareInt p.2 q.2 else Lib.compareInt p.1 q.1

set_option maxHeartbeats 400000 in
theorem or2_any (g : Nat) (u v : Int) (w : World) (h0 : w.cell? ⟨g, 0, none⟩ = some (.int .i64 u)) (h1 : w.cell? ⟨g, 1, none⟩ = some (.int .i64 v)) :
    Calls Tryz.prog 129 #[.slice (some ⟨g, 0, none⟩) 2 2] w fun e w' => e = .returned (.int .i64 (if u = 0 then v else u)) ∧ w = w' := by
  by_cases hu : u = 0
  · subst hu
    by_cases hv : v = 0
    · subst hv
      go_enter Tryz.func129, Tryz.ntmps129
      go_wp2
      go_loop [8] (fun i => ∃ k : Nat, k ≤ 2 ∧ i = .int .i64 k) (fun i => 2 - (intOf i).toNat)
      case atStart => exact ⟨0, by omega, rfl⟩
      case round =>
        obtain ⟨k, hk, rfl⟩ := hrel
        have hk2 : k = 0 ∨ k = 1 ∨ k = 2 := by omega
        rcases hk2 with rfl | rfl | rfl
        · go_wp2
          go_round
          case rel => exact ⟨1, by omega, rfl⟩
          case measure => simp [intOf]
        · go_wp2
          go_round
          case rel => exact ⟨2, by omega, rfl⟩
          case measure => simp [intOf]
        · go_wp2
          go_ret
          exact ⟨rfl, rfl⟩
    · have hv' : (v == 0) = false := by simpa using hv
      have hv2 : (v != 0) = true := by simpa using hv
      go_enter Tryz.func129, Tryz.ntmps129
      go_wp2
      go_loop [8] (fun i => ∃ k : Nat, k ≤ 1 ∧ i = .int .i64 k) (fun i => 2 - (intOf i).toNat)
      case atStart => exact ⟨0, by omega, rfl⟩
      case round =>
        obtain ⟨k, hk, rfl⟩ := hrel
        have hk2 : k = 0 ∨ k = 1 := by omega
        rcases hk2 with rfl | rfl
        · go_wp2
          go_round
          case rel => exact ⟨1, by omega, rfl⟩
          case measure => simp [intOf]
        · go_wp2
          go_ret
          exact ⟨ret_int (by first | rfl | simp), rfl⟩
  · have hu' : (u == 0) = false := by simpa using hu
    have hu2 : (u != 0) = true := by simpa using hu
    go_enter Tryz.func129, Tryz.ntmps129
    go_wp2
    go_loop [8] (fun i => i = .int .i64 ((0 : Nat) : Int)) (fun i => 2 - (intOf i).toNat)
    case atStart => rfl
    case round =>
      obtain rfl := hrel
      go_wp2
      go_ret
      exact ⟨ret_int (by first | rfl | simp [hu]), rfl⟩

def cI (x y : Int) : Int := Lib.compareInt x y
def orI (u v : Int) : Int := if u = 0 then v else u
theorem compI_any (x y : Int) (w : World) : Calls Tryz.prog 130 #[.int .i64 x, .int .i64 y] w fun e w' => e = .returned (.int .i64 (cI x y)) ∧ w = w' :=
  (Tryz.cmp_Compare_int x y w).mono fun _ _ ⟨he, hw⟩ => ⟨he, hw.symm⟩
theorem orI_any (g : Nat) (u v : Int) (w : World) (h0 : w.cell? ⟨g, 0, none⟩ = some (.int .i64 u)) (h1 : w.cell? ⟨g, 1, none⟩ = some (.int .i64 v)) :
    Calls Tryz.prog 129 #[.slice (some ⟨g, 0, none⟩) 2 2] w fun e w' => e = .returned (.int .i64 (orI u v)) ∧ w = w' := or2_any g u v w h0 h1

set_option maxRecDepth 100000 in
set_option maxHeartbeats 1000000 in
theorem compare_any (p q : Int × Int) (W : World) :
    Calls Tryz.prog 111 #[.agg #[.int .i64 p.1, .int .i64 p.2], .agg #[.int .i64 q.1, .int .i64 q.2]] W fun e w' => e = .returned (.int .i64 (cmpP p q)) ∧ Grown W w' := by
  obtain ⟨x, y⟩ := p
  obtain ⟨x2, y2⟩ := q
  have G : Hid (Grown W ((W.alloc (.cells #[.int .i64 x, .int .i64 y] 94)).alloc (.cells #[.int .i64 x2, .int .i64 y2] 94))) := Lib.hid (((Grown.refl W).alloc _).alloc _)
  rw [show cmpP (x, y) (x2, y2) = orI (cI x x2) (cI y y2) from rfl]
  obtain ⟨W2, hW2⟩ : ∃ W2, W2 = (W.alloc (.cells #[.int .i64 x, .int .i64 y] 94)).alloc (.cells #[.int .i64 x2, .int .i64 y2] 94) := ⟨_, rfl⟩
  have a0 : W2.cell? ⟨W.heap.size, 0, none⟩ = some (.int .i64 x) := by rw [hW2]; go_simp
  have a1 : W2.cell? ⟨W.heap.size, 1, none⟩ = some (.int .i64 y) := by rw [hW2]; go_simp
  have b0 : W2.cell? ⟨W.heap.size + 1, 0, none⟩ = some (.int .i64 x2) := by rw [hW2]; go_simp
  have b1 : W2.cell? ⟨W.heap.size + 1, 1, none⟩ = some (.int .i64 y2) := by rw [hW2]; go_simp
  rw [← hW2] at G
  go_enter Tryz.func111, Tryz.ntmps111
  go_wp2
  rw [← hW2]
  have hsz : (W.heap.size + 2) ≤ W2.heap.size := by rw [hW2]; simp
  clear hW2
  have ga : W.heap.size < W2.heap.size := by omega
  have gb : W.heap.size + 1 < W2.heap.size := by omega
  go_region_held3 (fun w' => w'.cell? ⟨W.heap.size, 0, none⟩ = some (.int .i64 x) ∧ w'.cell? ⟨W.heap.size, 1, none⟩ = some (.int .i64 y) ∧ w'.cell? ⟨W.heap.size + 1, 0, none⟩ = some (.int .i64 x2) ∧ w'.cell? ⟨W.heap.size + 1, 1, none⟩ = some (.int .i64 y2)) (first | exact ⟨a0, a1, b0, b1⟩ | (refine ⟨?_, ?_, ?_, ?_⟩ <;> (first | assumption | go_simp)))
    (first
      | (go_at_call 130; (with_reducible refine (compI_any _ _ _).mono ?_); rintro e wv ⟨rfl, rfl⟩)
      | (go_at_call 129; (with_reducible refine (orI_any W2.heap.size (cI x x2) (cI y y2) _ ?_ ?_).mono ?_); (go_simp); (go_simp); rintro e wv ⟨rfl, rfl⟩))
  all_goals go_wp2
  all_goals go_ret
  all_goals (refine ⟨rfl, ?_⟩)
  all_goals (repeat (first | exact G.out | refine Grown.alloc ?_ _ | refine Grown.drewN ?_ _ | refine Grown.drew1 ?_))

end Go.Proofs.YtcfibfbenccimaaGreatDoor

namespace Go.Proofs.YtcfibfbenccimaaGreatDoor
open Go.RowKit

theorem pair_at {E : TypeId} {w : World} {lo g n c : Nat} {xs : List (Int × Int)} (h : OwnP E w lo (some ⟨g, 0, none⟩) n c xs) {i : Nat} {p : Int × Int} (hx : xs[i]? = some p) :
    w.cell? ⟨g, i * 2, none⟩ = some (.int .i64 p.1) ∧ w.cell? ⟨g, i * 2 + 1, none⟩ = some (.int .i64 p.2) :=
  ⟨OwnK.cell (j := 0) encP_len h hx rfl, OwnK.cell (j := 1) encP_len h hx rfl⟩
theorem arr_at {d : Array (Int × Int)} {i : Nat} (h : i < d.size) : d.toList[i]? = some d[i]! := by
  rw [Array.getElem?_toList, Array.getElem?_eq_getElem h, getElem!_pos d i h]

theorem eq_spot (x y a b : Int) (w : World) : Sem.run Tryz.prog (binOp .eql 94 (.agg #[.int .i64 x, .int .i64 y]) (.agg #[.int .i64 a, .int .i64 b])) w = .ok (.bool (x == a && y == b)) w := by
  have u3 := Tryz.underlying3
  have a3 := Tryz.isAgg3
  have z3 := Tryz.sizeOf3
  have hS : Tryz.prog.underlying 94 = some (.struct (Tryz.prog.fieldsOf 94)) := by kernel_rfl
  have hp : Tryz.prog.stoodInHeld 94 = false := by kernel_rfl
  rw [run_eql_struct, show (10000 : Nat) = 9999 + 1 from rfl, run_equalIn_agg w 9999 94 _ _ hS hp]
  simp only [Program.fieldsOf, Tryz.underlying94]
  go_simp
  by_cases h1 : x = a <;> by_cases h2 : y = b <;> simp [h1, h2]
theorem neq_spot (x y a b : Int) (w : World) : Sem.run Tryz.prog (binOp .neq 94 (.agg #[.int .i64 x, .int .i64 y]) (.agg #[.int .i64 a, .int .i64 b])) w = .ok (.bool (!(x == a && y == b))) w := by
  have u3 := Tryz.underlying3
  have a3 := Tryz.isAgg3
  have z3 := Tryz.sizeOf3
  have hS : Tryz.prog.underlying 94 = some (.struct (Tryz.prog.fieldsOf 94)) := by kernel_rfl
  have hp : Tryz.prog.stoodInHeld 94 = false := by kernel_rfl
  rw [run_neq_struct, show (10000 : Nat) = 9999 + 1 from rfl, run_equalIn_agg w 9999 94 _ _ hS hp]
  simp only [Program.fieldsOf, Tryz.underlying94]
  go_simp
  by_cases h1 : x = a <;> by_cases h2 : y = b <;> simp [h1, h2]
theorem guard_spot (op : BinOp) (u v : Operand) (xs ys : Array Value) (w : World) : Sem.run Tryz.prog (eqGuard op 94 u v (.agg xs) (.agg ys)) w = .ok () w := run_eqGuard_agg w op _ u v xs ys (by kernel_rfl)

set_option maxRecDepth 100000 in
set_option maxHeartbeats 1000000 in
theorem compact_any (lo g c N : Nat) (d : Array (Int × Int)) (w : World) (hown : OwnP 94 w lo (some ⟨g, 0, none⟩) N c d.toList) (hN : d.size = N) (h2 : 2 ≤ N) (hsz : N ≤ 1000) (hc : N ≤ c) :
    Calls Tryz.prog 112 #[.slice (some ⟨g, 0, none⟩) N c] w fun e w' => ∃ n', e = .returned (.slice (some ⟨g, 0, none⟩) n' c) ∧ OwnP 94 w' lo (some ⟨g, 0, none⟩) n' c (Lib.compactUpTo d d.size) ∧ w.grownBy w' (some g) := by
  have HN := Lib.hid hN
  have HO := Lib.hid hown
  clear hN hown
  go_enter Tryz.func112, Tryz.ntmps112
  go_wp2
  go_loopw [3] (fun s3 wr => ∃ m : Nat, m + 1 ≤ N ∧ s3 = .int .i64 ((m : Int) + 1) ∧ OwnP 94 wr lo (some ⟨g, 0, none⟩) N c d.toList ∧ w.grownBy wr (some g) ∧ (∀ j, j < m + 1 → Lib.keeps d j = true)) (fun s3 _ => N - (intOf s3).toNat)
  case atStart => exact ⟨0, by omega, rfl, HO.out, grown_refl _ _, Lib.keeps_lt_one d⟩
  case round =>
    obtain ⟨m, hm, rfl, hown, hg, hall⟩ := hrel
    have HA := Lib.hid hall; have HG := Lib.hid hg
    clear hall hg HO
    by_cases hlt : m + 1 < N
    · obtain ⟨x0, x1⟩ := pair_at hown (arr_at (d := d) (i := m + 1) (by have := HN.out; omega))
      obtain ⟨y0, y1⟩ := pair_at hown (arr_at (d := d) (i := m) (by have := HN.out; omega))
      have HO := Lib.hid hown
      clear hown
      obtain ⟨⟨xa, xb⟩, hx⟩ : ∃ x, d[m + 1]! = x := ⟨_, rfl⟩
      obtain ⟨⟨ya, yb⟩, hy⟩ : ∃ x, d[m]! = x := ⟨_, rfl⟩
      rw [hx] at x0 x1; rw [hy] at y0 y1
      simp only at x0 x1 y0 y1
      have HX := Lib.hid hx; have HY := Lib.hid hy
      clear hx hy
      have hi1 : (m : Int) + 1 < (N : Int) := by omega
      have hi0 : (0 : Int) ≤ (m : Int) + 1 := by omega
      have hgd := fun (w' : World) (u v : Operand) => guard_spot .eql u v #[.int .i64 xa, .int .i64 xb] #[.int .i64 ya, .int .i64 yb] w'
      cases hdp : (xa == ya && xb == yb) with
      | true =>
        have he := fun w' : World => hdp ▸ eq_spot xa xb ya yb w'
        have HK : Hid (Lib.keeps d (m + 1) = false) := Lib.hid (Lib.keeps_neg (by omega) (by rw [HX.out, Nat.add_sub_cancel, HY.out]; simp at hdp; rw [hdp.1, hdp.2]))
        clear hdp
        go_wp2
        go_region
        go_wp2
        clear he hgd x0 x1 y0 y1
        go_loopw [3, 5] (fun s3 s5 wx => ∃ (kk k2 : Nat) (dk : Array (Int × Int)), s3 = .int .i64 kk ∧ s5 = .int .i64 ((k2 : Int) + 1) ∧ m + 1 + (k2 + 1) ≤ N ∧ OwnP 94 wx lo (some ⟨g, 0, none⟩) N c dk.toList ∧ w.grownBy wx (some g) ∧ Lib.CompInv d (m + 1 + (k2 + 1)) kk dk) (fun _ s5 _ => N - (intOf s5).toNat)
        case atStart => exact ⟨m + 1, 0, d, by go_num, rfl, by omega, HO.out.drew1, grown_drewN HG.out 1, Lib.CompInv.start HA.out HK.out⟩
        case round =>
          obtain ⟨kk, k2, dk, rfl, rfl, hle, hown, hg, hI⟩ := hrel
          have hkk := hI.lt
          have HDS := Lib.hid hI.size
          clear HO
          by_cases hlt2 : m + 1 + (k2 + 1) < N
          · have HI := Lib.hid hI; have HG2 := Lib.hid hg
            obtain ⟨u0, u1⟩ := pair_at hown (arr_at (d := dk) (i := m + 1 + (k2 + 1)) (by have := HN.out; have := HDS.out; omega))
            obtain ⟨v0, v1⟩ := pair_at hown (arr_at (d := dk) (i := m + 1 + k2) (by have := HN.out; have := HDS.out; omega))
            obtain ⟨t0, t1⟩ := pair_at hown (arr_at (d := dk) (i := kk) (by have := HN.out; have := HDS.out; omega))
            have f0 := hown.frozen (kk * 2); have f1 := hown.frozen (kk * 2 + 1)
            rw [hI.high _ (by omega), show (m + 1 + (k2 + 1)) * 2 = (m + 1) * 2 + (k2 + 1) * 2 by omega] at u0 u1
            rw [hI.high _ (by omega), show (m + 1 + k2) * 2 = (m + 1) * 2 + k2 * 2 by omega] at v0 v1
            have HO := Lib.hid hown
            clear hown hI hg
            obtain ⟨⟨ua, ub⟩, hu⟩ : ∃ x, d[m + 1 + (k2 + 1)]! = x := ⟨_, rfl⟩
            obtain ⟨⟨va, vb⟩, hv⟩ : ∃ x, d[m + 1 + k2]! = x := ⟨_, rfl⟩
            obtain ⟨⟨ta, tb⟩, ht⟩ : ∃ x, dk[kk]! = x := ⟨_, rfl⟩
            rw [hu] at u0 u1; rw [hv] at v0 v1; rw [ht] at t0 t1
            simp only at u0 u1 v0 v1 t0 t1
            have HU := Lib.hid hu; have HV := Lib.hid hv
            clear hu hv ht
            have hj0 : (0 : Int) ≤ (k2 : Int) + 1 := by omega
            have hj1 : (k2 : Int) + 1 < ((N - (m + 1) : Nat) : Int) := by omega
            have hk1 : (kk : Int) < (N : Int) := by omega
            have hgd2 := fun (w' : World) (u v : Operand) => guard_spot .neq u v #[.int .i64 ua, .int .i64 ub] #[.int .i64 va, .int .i64 vb] w'
            cases hdp2 : (ua == va && ub == vb) with
            | true =>
              have he2 : ∀ w' : World, _ := fun w' => hdp2 ▸ neq_spot ua ub va vb w'
              have HK2 : Hid (Lib.keeps d (m + 1 + (k2 + 1)) = false) := Lib.hid (Lib.keeps_neg (by omega) (by rw [HU.out, show m + 1 + (k2 + 1) - 1 = m + 1 + k2 by omega, HV.out]; simp at hdp2; rw [hdp2.1, hdp2.2]))
              clear hdp2
              go_wp2
              go_region
              go_wp2
              go_roundw
              case rel => exact ⟨kk, k2 + 1, dk, rfl, by go_num, by omega, HO.out.drew1, grown_drewN HG2.out 1, HI.out.skip HK2.out⟩
              case measure => simp [intOf]; omega
            | false =>
              have he2 : ∀ w' : World, _ := fun w' => hdp2 ▸ neq_spot ua ub va vb w'
              have HK2 : Hid (Lib.keeps d (m + 1 + (k2 + 1)) = true) := Lib.hid (Lib.keeps_pos (by rw [HU.out, show m + 1 + (k2 + 1) - 1 = m + 1 + k2 by omega, HV.out]; intro h; injection h with h1 h2; rw [h1, h2] at hdp2; simp at hdp2))
              clear hdp2
              go_wp2
              go_region
              go_wp2
              go_roundw
              case rel =>
                have hs := HO.out.stored (i := kk) (by omega) (ua, ub)
                have hk := HI.out.keep (by have := HN.out; omega) HK2.out
                rw [HU.out] at hk
                exact ⟨kk + 1, k2 + 1, dk.setIfInBounds kk (ua, ub), by go_num, by go_num, by omega, by rw [Array.toList_setIfInBounds]; exact hs.1.drew1, grown_drewN (grown_next HG2.out hs.2) 1, hk⟩
              case measure => simp [intOf]; omega
          · have hend : m + 1 + (k2 + 1) = N := by omega
            have hnlt : ¬ (k2 : Int) + 1 < ((N - (m + 1) : Nat) : Int) := by omega
            have hz : ∀ w', (zeroValue 94).run Tryz.prog w' = .ok (.agg #[.int .i64 0, .int .i64 0]) w' := fun _ => by kernel_rfl
            have hcl : ∀ ty, (Builtin.clear_ #[110] ty #[.slice (some ⟨g, kk * 2, none⟩) (N - kk) (c - kk)]).run Tryz.prog wr = .ok (.tuple #[]) (wr.setCells g (kk * 2) (List.replicate ((N - kk) * 2) (.int .i64 0))) := fun ty =>
              run_clear_pairs wr _ _ ty Tryz.underlying110 hz g (kk * 2) (N - kk) (c - kk) (by omega)
                (fun j hj => by
                  have hi : kk + j / 2 < dk.size := by have := HN.out; have := HDS.out; omega
                  obtain ⟨p0, p1⟩ := pair_at hown (arr_at hi)
                  have : j % 2 = 0 ∨ j % 2 = 1 := by omega
                  rcases this with e | e
                  · rw [show kk * 2 + j = (kk + j / 2) * 2 by omega, p0]; rfl
                  · rw [show kk * 2 + j = (kk + j / 2) * 2 + 1 by omega, p1]; rfl)
                (fun j hj => hown.frozen _)
            have HI := Lib.hid hI; have HG2 := Lib.hid hg; have HO := Lib.hid hown
            clear hI hg hown hz
            go_wp2
            go_ret
            have hI := HI.out
            rw [hend] at hI
            have hcut := HO.out.cut encP_len (m := kk) (by omega)
            have hcb := OwnK.cells_behind (List.replicate ((N - kk) * 2) (.int .i64 0)) (kk * 2) encP_len hcut (Nat.le_refl _)
            have e : dk.toList.take kk = Lib.compactUpTo d d.size := by
              apply List.ext_getElem?
              intro j
              rw [HN.out]
              by_cases hj : j < kk
              · rw [List.getElem?_take_of_lt hj, hI.low j hj, arr_at (by have := HN.out; have := HDS.out; omega)]
              · rw [List.getElem?_eq_none (by rw [List.length_take]; omega), List.getElem?_eq_none (by rw [hI.len]; omega)]
            exact ⟨kk, rfl, by rw [← e]; exact hcb.1, grown_next HG2.out hcb.2⟩
      | false =>
        have he := fun w' : World => hdp ▸ eq_spot xa xb ya yb w'
        have HK : Hid (Lib.keeps d (m + 1) = true) := Lib.hid (Lib.keeps_pos (by rw [HX.out, Nat.add_sub_cancel, HY.out]; intro h; injection h with h1 h2; rw [h1, h2] at hdp; simp at hdp))
        clear hdp
        go_wp2
        go_region
        go_wp2
        go_roundw
        case rel => exact ⟨m + 1, by omega, by go_num, HO.out.drew1, grown_drewN HG.out 1, fun j hj => by
          by_cases e : j = m + 1
          · subst e; exact HK.out
          · exact HA.out j (by omega)⟩
        case measure => simp [intOf]; omega
    · go_wp2
      go_ret
      exact ⟨N, rfl, by rw [HN.out, Lib.compactUpTo_all d N (fun j hj => HA.out j (by omega)), ← HN.out, Lib.range_map_get, HN.out]; exact hown, HG.out⟩

end Go.Proofs.YtcfibfbenccimaaGreatDoor

namespace Go.Proofs.YtcfibfbenccimaaGreatDoor
open Go.RowKit

theorem ltOf_cmpP (p q : Int × Int) : ltOf cmpP p q = lexB p q := by
  unfold ltOf cmpP Lib.compareInt lexB
  rw [Bool.eq_iff_iff, decide_eq_true_eq, decide_eq_true_eq]
  repeat' split
  all_goals omega
theorem swo_cmpP : Go.Sort.SWO (ltOf cmpP) where
  irrefl p := by rw [ltOf_cmpP]; simp [lexB]
  trans p q r h1 h2 := by rw [ltOf_cmpP] at *; rw [lexB_iff] at *; omega
  ntrans p q r h1 h2 := by
    rw [ltOf_cmpP] at *
    rw [Bool.eq_false_iff, Ne, lexB_iff] at *
    omega

set_option maxHeartbeats 1000000 in
theorem sortSpot_any (lo g c n : Nat) (xs : List (Int × Int)) (w : World) (hown : OwnP 94 w lo (some ⟨g, 0, none⟩) n c xs) (hn : n ≤ 1000000) :
    Calls Tryz.prog 110 #[.slice (some ⟨g, 0, none⟩) n c, .func (.func 111) #[] #[]] w fun e w' =>
      e = .returned (.tuple #[]) ∧ OwnP 94 w' lo (some ⟨g, 0, none⟩) n c (sortL xs) ∧ w.grownBy w' (some g) := by
  have eg : ∀ args w, (callFunc 111 args).run Tryz.prog w = .ok (.enter 111 args) w := enters_of Tryz.func111 (by kernel_rfl) rfl
  have hlt : g < w.heap.size := by
    rcases hown.form with ⟨h, _⟩ | ⟨g', h, _, h2, _⟩
    · cases h
    · injection h with h; injection h with h; rw [h]; exact h2
  have hsz : xs.toArray.size = n := by simpa using hown.1
  have hcon := AnyQ.slices_SortFunc Tryz.sortSpot 2 (fun _ => by kernel_rfl) (fun _ => by kernel_rfl) encP encP_len encP_one cmpP swo_cmpP 111 #[] g 0 c xs.toArray w eg (fun _ _ _ _ x y => compare_any x y _) (hown.holds encP_len) hlt (by rw [hsz]; omega)
  change Calls Tryz.prog 110 _ _ _ at hcon
  rw [hsz] at hcon
  refine hcon.mono ?_
  rintro e w' ⟨rfl, d, m, os, hp, hs, rfl⟩
  have hd : d.size = n := hp.1.trans hsz
  obtain ⟨h1, h2⟩ := hown.sorted encP_len d hd m os
  have e1 : d.toList.Perm xs := by
    have := hp.2.2
    rw [Array.extract_eq_self_of_le (by omega), Array.extract_eq_self_of_le (by omega)] at this
    simpa using this
  have e2 : d.toList.Pairwise lexLe := by
    rw [List.pairwise_iff_getElem]
    intro i j hi hj hij
    have h := hs i j (Nat.zero_le _) hij (by rw [← hd]; simpa using hj)
    rw [ltOf_cmpP, getElem!_pos d j (by simpa using hj), getElem!_pos d i (by simpa using hi)] at h
    exact h
  have e3 : d.toList = sortL xs := sorted_unique (e1.trans (sort_perm xs).symm) e2 (sort_sorted xs)
  rw [e3] at h1
  exact ⟨rfl, h1, h2⟩

/-- append of some elements, laid in a new block, onto a row of the call's own. -/
theorem wpList_appKn {α : Type} {enc : α → List Value} {k : Nat} {E : TypeId} {P : Program} {w : World} {ops : Array Oper} {rest : List Oper} {o : Oper} {a : Act} {Q : Exit → Act → World → Prop} (hgd : o.guard = none) (s x : Operand) (T : TypeId)
    (ho : o.op = .call { callee := .builtin .append, args := #[s, x], argTypes := #[T, T] }) (i0 : TypeInfo) (z : Value) (bytes : Nat)
    (hT : P.underlying T = some (.slice E)) (hi : P.info? E = some i0) (hz0 : i0.zero = some z) (hz1 : i0.size = k) (hz2 : i0.bytes = bytes) (hzs : z.cells.size = k) (hk0 : 0 < k) (hby : bytes ≤ 64)
    (hk : ∀ x, (enc x).length = k) (h1 : ∀ x, ∀ u ∈ enc x, u.oneCell' = true)
    (lo : Nat) (A : Option Addr) (n c m : Nat) (xs ys : List α) (cs : Array Value) (hcs : cs.toList = ys.flatMap enc) (hs : a.eval s = .slice A n c) (hown : OwnK enc k E w lo A n c xs) (hx : a.eval x = .slice (some ⟨w.heap.size, 0, none⟩) m m) (hm : ys.length = m)
    (hn : n + m ≤ 1000000) (hlo : lo ≤ w.heap.size)
    (h : ∀ A' c' w', OwnK enc k E w' lo A' (n + m) c' (xs ++ ys) → Below lo w w' → wpList P ops Q rest (a.put o.dst (.slice A' (n + m) c')) w') :
    wpList P ops Q (o :: rest) a (w.alloc (.cells cs E)) :=
  wpList_appK hgd s x T ho i0 z bytes hT hi hz0 hz1 hz2 hzs hk0 hby hk h1 ys ⟨w.heap.size, 0, none⟩ m m hs (hown.alloc _) hx hm
    (fun j u hj => by
      rw [← hcs] at hj
      have e : (⟨w.heap.size, 0, none⟩ : Addr).add j = ⟨w.heap.size, j, none⟩ := by unfold Addr.add; split <;> simp_all
      rw [e, cell_of_row (w.alloc (.cells cs E)) w.heap.size j cs E (0, 0) (heap_alloc_new w _)]
      simpa using hj)
    hn (by simp; omega) (fun A' c' w' hO _ hb => h A' c' w' hO (((Below.refl _ _).alloc hlo _).trans hb))

end Go.Proofs.YtcfibfbenccimaaGreatDoor

namespace Go.Proofs.YtcfibfbenccimaaGreatDoor
open Go.RowKit

theorem al_size (w : World) (o : Obj) : (w.alloc o).heap.size = w.heap.size + 1 := by simp
theorem infoS : (Tryz.prog.info? 94).map (fun i => (i.zero, i.size, i.bytes)) = some (some (.agg #[.int .i64 0, .int .i64 0]), 2, 16) := by kernel_rfl

set_option maxRecDepth 100000 in
set_option maxHeartbeats 2000000 in
theorem stepsOf_any (a b : Int) (w : World) (hl : leaperB a b = true) :
    Calls Tryz.prog 95 #[lpr a b] w fun e w' => ∃ A' n' c', e = .returned (.slice A' n' c') ∧ OwnP 94 w' w.heap.size A' n' c' (stepsL a b) ∧ Below w.heap.size w w' := by
  obtain ⟨i0, hi, hz0, hz1, hz2⟩ := info_parts infoS
  have HI := Lib.hid hi; have HZ0 := Lib.hid hz0; have HZ1 := Lib.hid hz1; have HZ2 := Lib.hid hz2
  have HL := Lib.hid hl
  have hb := leaperB_iff.1 hl
  obtain ⟨b1, b2, b3, b4⟩ := hb
  clear hi hz0 hz1 hz2 hl
  have j0 : ∀ w', (Instr.index 126 (.agg #[.int .i64 a, .int .i64 b, .int .i64 b, .int .i64 a]) (.int .i64 0)).run Tryz.prog w' = .ok (.agg #[.int .i64 a, .int .i64 b]) w' := fun _ => by kernel_rfl
  have j1 : ∀ w', (Instr.index 126 (.agg #[.int .i64 a, .int .i64 b, .int .i64 b, .int .i64 a]) (.int .i64 1)).run Tryz.prog w' = .ok (.agg #[.int .i64 b, .int .i64 a]) w' := fun _ => by kernel_rfl
  go_enter Tryz.func95, Tryz.ntmps95
  go_wp2
  go_loopw [3, 17] (fun v i wr => ∃ (k n' c' : Nat) (A' : Option Addr), k ≤ 2 ∧ i = .int .i64 k ∧ v = .slice A' n' c' ∧ OwnP 94 wr (w.heap.size + 1) A' n' c' ((eightL a b).take (4 * k)) ∧ Below (w.heap.size + 1) (w.alloc (.cells #[.int .i64 a, .int .i64 b] 32)) wr) (fun _ i _ => 2 - (intOf i).toNat)
  case atStart => exact ⟨0, 0, 0, none, by omega, rfl, rfl, OwnK.none_ _ _ _ _ _, Below.refl _ _⟩
  case round =>
    obtain ⟨k, n', c', A', hk, rfl, rfl, hown, hbw⟩ := hrel
    have hsz := box_size hbw
    have hk3 : k = 0 ∨ k = 1 ∨ k = 2 := by omega
    have hlen := hown.len
    rcases hk3 with rfl | rfl | rfl
    · obtain rfl : n' = 0 := by simpa using hlen.symm
      have HO := Lib.hid hown; have HB := Lib.hid hbw
      clear hown hbw hlen
      go_wp2_with (at_builtin; refine wpList_appKn rfl (.tmp 20) (.tmp 41) 110 rfl i0 (.agg #[.int .i64 0, .int .i64 0]) 16 Tryz.underlying110 HI.out HZ0.out HZ1.out HZ2.out rfl (by decide) (by decide) encP_len encP_one (w.heap.size + 1) A' 0 c' 4 ((eightL a b).take (4 * 0)) [(a, b), (-a, b), (a, -b), (-a, -b)] _ (by rfl) rfl (HO.out.alloc _) (by rw [al_size]; rfl) rfl (by omega) (by have := box_size HB.out; simp; omega) ?_; intro A2 c2 w2 hown2 hb2)
      have HO2 := Lib.hid hown2; have HB2 := Lib.hid ((HB.out.trans (((Below.refl _ _).alloc (by omega) _))).trans hb2)
      clear hown2 hb2
      go_wp2
      go_roundw
      case rel => exact ⟨1, 4, c2, A2, by omega, by go_num, rfl, HO2.out, HB2.out⟩
      case measure => simp [intOf]
    · obtain rfl : n' = 4 := by simpa [eightL] using hlen.symm
      have HO := Lib.hid hown; have HB := Lib.hid hbw
      clear hown hbw hlen
      go_wp2_with (at_builtin; refine wpList_appKn rfl (.tmp 20) (.tmp 41) 110 rfl i0 (.agg #[.int .i64 0, .int .i64 0]) 16 Tryz.underlying110 HI.out HZ0.out HZ1.out HZ2.out rfl (by decide) (by decide) encP_len encP_one (w.heap.size + 1) A' 4 c' 4 ((eightL a b).take (4 * 1)) [(b, a), (-b, a), (b, -a), (-b, -a)] _ (by rfl) rfl (HO.out.alloc _) (by rw [al_size]; rfl) rfl (by omega) (by have := box_size HB.out; simp; omega) ?_; intro A2 c2 w2 hown2 hb2)
      have HO2 := Lib.hid hown2; have HB2 := Lib.hid ((HB.out.trans (((Below.refl _ _).alloc (by omega) _))).trans hb2)
      clear hown2 hb2
      go_wp2
      go_roundw
      case rel => exact ⟨2, 8, c2, A2, by omega, by go_num, rfl, HO2.out, HB2.out⟩
      case measure => simp [intOf]
    · obtain rfl : n' = 8 := by simpa [eightL] using hlen.symm
      obtain ⟨g, rfl, hg1, hg2⟩ := hown.some_ (i := 0) (by omega)
      have HO := Lib.hid hown; have HB := Lib.hid hbw
      clear hown hbw hlen
      go_wp2_with fail
      refine (sortSpot_any (w.heap.size + 1) g c' 8 (eightL a b) wr HO.out (by omega)).mono ?_
      rintro e wv ⟨rfl, hown, hgr⟩
      have hcb : Below (w.heap.size + 1) wr wv := below_of_grown hgr (by omega) (fun g' h => by injection h with h; omega)
      have HB1 := Lib.hid (HB.out.trans hcb)
      have HO1 := Lib.hid hown
      clear hown hgr hcb HO HB
      have hsl : (sortL (eightL a b)).toArray.size = 8 := by simpa using HO1.out.len
      have HSL := Lib.hid hsl
      clear hsl
      go_wp2_with fail
      refine (compact_any (w.heap.size + 1) g c' 8 (sortL (eightL a b)).toArray wv HO1.out HSL.out (by omega) (by omega) (by rcases HO1.out.form with ⟨h, _⟩ | ⟨_, _, _, _, h, _⟩; cases h; exact h)).mono ?_
      rintro e wz ⟨n', rfl, hown, hgr⟩
      have hgl : g < wv.heap.size := by rcases HO1.out.some_ (i := 0) (by omega) with ⟨g', h, _, h2⟩; injection h with h; injection h with h; omega
      have hcb : Below (w.heap.size + 1) wv wz := below_of_grown hgr (by have := HB1.out.size; simp at this; omega) (fun g' h => by injection h with h; omega)
      rw [HSL.out, comp_sort_eight HL.out] at hown
      have HB2 := Lib.hid (HB1.out.trans hcb)
      have HO2 := Lib.hid hown
      clear hown hgr hcb HO1 HB1
      go_wp2
      go_ret
      exact ⟨_, n', c', rfl, HO2.out.lower (by omega), box_below HB2.out⟩

end Go.Proofs.YtcfibfbenccimaaGreatDoor
