/-
  From a law's contract to its statement: how the arguments are opened, and what the statement's end asks.
  What the row's condition (the table of math/bits lies as its initialiser laid it) gives the walks; the witness's world.
  What the laws' walks need beside the helpers' contracts.
  Memory words: a map from ints that the call owns, read value by value.
  Contracts: the cells to which a leaper leaps, and degrees, in the model.
  Contracts: LeapsFrom, DegreesOf.
  Contracts: DegreesOf, CountLeaps.
  Contracts: leaps onward, as a map from cells.
  Memory words: a queue of ints: a slice that is cut at its head and appended to.
  Plain functions and facts: distances by a search in width.
  Plain facts: a search in width, cell by cell.
-/
import Derived.Test.YtomfgjbicpeggaaGreatDoorRows
import Derived.Test.YtomfgjbicpeggaaGreatDoorBunHTwoColours1
import Derived.ProofKit
import Derived.Lib.SmallJoins
import Derived.Test.YtomfgjbicpeggaaGreatDoorBunHTwoColours4
import Derived.Lib.LaidTab
import Derived.LaidMore
import Derived.LaidSub
import Derived.OpenShut
import Derived.MakeChecks
import Derived.Test.YtomfgjbicpeggaaGreatDoorBunHTwoColours2
import Derived.Deep.RegionHeld3
import Derived.Test.YtomfgjbicpeggaaGreatDoorBunHTwoColours3
import Derived.Maps.Views
import Derived.Maps.OwnOps
import Derived.Deep.RegionLaw
import Derived.Deep.RegionLawGrows
namespace Go.Proofs.YtomfgjbicpeggaaGreatDoor
open Go.ChangeShapes Go.WideShapes Go.ChangeAt Go.RowKit Go.Joins
set_option linter.unusedVariables false

theorem own : ownKnob Tryz.prog.godebug = none := by kernel_rfl
theorem laidOut : laidOutB Tryz.prog = true := by kernel_rfl
theorem rkI : Tryz.prog.cellsOf 3 = 1 := by kernel_rfl
theorem rkL : Tryz.prog.cellsOf 26 = 2 := by kernel_rfl
theorem rkB : Tryz.prog.cellsOf 24 = 3 := by kernel_rfl

theorem okT_I : Tryz.prog.readableRec 3 = true ∧ 3 < Tryz.prog.types.size := ⟨by kernel_rfl, of_decide_eq_true (by kernel_rfl)⟩
theorem okT_L : Tryz.prog.readableRec 26 = true ∧ 26 < Tryz.prog.types.size := ⟨by kernel_rfl, of_decide_eq_true (by kernel_rfl)⟩
theorem okT_B : Tryz.prog.readableRec 24 = true ∧ 24 < Tryz.prog.types.size := ⟨by kernel_rfl, of_decide_eq_true (by kernel_rfl)⟩
theorem okT_P : Tryz.prog.readableRec 22 = true ∧ 22 < Tryz.prog.types.size := ⟨by kernel_rfl, of_decide_eq_true (by kernel_rfl)⟩
theorem okT_S : Tryz.prog.readableRec 9 = true ∧ 9 < Tryz.prog.types.size := ⟨by kernel_rfl, of_decide_eq_true (by kernel_rfl)⟩

/-! ### The closed facts of the program, once for all laws -/
theorem pf_laid : laidOutB Tryz.pinned.checked.prog = true := laidOut
theorem pf_maps : mapsRowed Tryz.pinned.checked.prog = true := by kernel_rfl
theorem pf_stops : (Tryz.pinned.checked.prog.stops == []) = true := by kernel_rfl
theorem pf_knobs : (Tryz.pinned.checked.prog.stopKnobs == []) = true := by kernel_rfl
theorem pf_heard : Tryz.pinned.checked.prog.stopsHeard = true := by kernel_rfl
theorem pf_plain : (true == Tryz.pinned.checked.prog.plainKeys) = true := by kernel_rfl
theorem pf_later : Tryz.pinned.checked.prog.laysLater = false := by kernel_rfl
theorem pf_reflect : Tryz.pinned.checked.prog.bearsReflect = false := by kernel_rfl
theorem pf_door : Tryz.pinned.checked.prog.doorFits [] = true := by kernel_rfl
/-- The signs of the dump's head, as numbers: so the kernel reads it once, and quickly. -/
def headNats : List Nat := [104, 97, 114, 110, 101, 115, 115, 32, 49, 102, 50, 51, 57, 51, 99, 54, 100, 101, 54, 50, 101, 49, 101, 100, 55, 57, 56, 102, 54, 101, 102, 52, 48, 49, 53, 51,
  53, 100, 51, 101, 50, 56, 50, 50, 100, 55, 57, 53, 97, 52, 57, 98, 101, 52, 53, 54, 50, 101, 102, 99, 55, 97, 55, 101, 55, 100, 48, 100, 52, 54, 49, 99, 32, 99,
  117, 116, 32, 97, 116, 32, 108, 111, 111, 112, 46, 101, 120, 97, 109, 112, 108, 101, 47, 103, 48, 49, 50, 51, 57, 47, 108, 97, 119, 115, 46, 70, 110, 69, 120,
  97, 99, 116, 84, 119, 111, 67, 111, 108, 111, 117, 114, 115]
set_option maxRecDepth 100000 in
theorem head_eq : Tryz.pinned.checked.prog.initOrder = String.ofList (headNats.map Char.ofNat) := by kernel_rfl
theorem head_list : Tryz.pinned.checked.prog.initOrder.toList = headNats.map Char.ofNat := by rw [head_eq, String.toList_ofList]
theorem pf_head : (behindMainWord (wordsSigns (headNats.map Char.ofNat))).head? = some "cut".toList := by kernel_rfl
theorem strip_cut (rest : List (List Char)) : stripLifts liftWords ("cut".toList :: rest) = ([], "cut".toList :: rest) := by kernel_rfl
/-- A head that opens with the one word, over whatever program. -/
theorem enter_of {P : Program} {L : List Char} {rest : List (List Char)} (h1 : P.initOrder.toList = L) (h2 : behindMainWord (wordsSigns L) = "cut".toList :: rest)
    (ha : P.laysLater = false) (hb : P.bearsReflect = false) (hc : P.doorFits [] = true) : P.mayEnter = true := by
  unfold Program.mayEnter
  rw [h1, h2]
  simp only [strip_cut, ha, hb, hc]
  simp
theorem final_of {P : Program} {L : List Char} {rest : List (List Char)} (h1 : P.initOrder.toList = L) (h2 : behindMainWord (wordsSigns L) = "cut".toList :: rest) : P.liftsFinal = false := by
  unfold Program.liftsFinal Program.headLifts
  rw [h1, h2]
  simp only [strip_cut]
  simp
theorem make_of {P : Program} {L : List Char} {rest : List (List Char)} (h1 : P.initOrder.toList = L) (h2 : behindMainWord (wordsSigns L) = "cut".toList :: rest) : P.make = some .cut := by
  unfold Program.make
  rw [h1, h2]
  simp
theorem pf_make : Tryz.pinned.checked.prog.make = some .cut := by
  obtain ⟨rest, hr⟩ := List.head?_eq_some_iff.1 pf_head
  exact make_of head_list hr
theorem pf_enter : Tryz.pinned.checked.prog.mayEnter = true := by
  obtain ⟨rest, hr⟩ := List.head?_eq_some_iff.1 pf_head
  exact enter_of head_list hr pf_later pf_reflect pf_door
theorem pf_final : Tryz.pinned.checked.prog.liftsFinal = false := by
  obtain ⟨rest, hr⟩ := List.head?_eq_some_iff.1 pf_head
  exact final_of head_list hr

/-- The closed facts of a law, one by one. -/
theorem joined_of {P : Program} {f : FuncId} {fn : Func} {s : ChangeSpec} {c : OpenClaim}
    (a1 : c.wf (OpenSpec.ofChange s) = true) (a2 : laidOutB P = true) (a3 : mapsRowed P = true) (a4 : fn.params.all (P.readableRec ·) = true) (a5 : namedTie P c.named s.vars = true)
    (a6 : (c.stops == []) = true) (a7 : (P.stops == []) = true) (a8 : (c.knobs == []) = true) (a9 : (P.stopKnobs == []) = true)
    (b1 : (c.inPlace == P.inPlace f) = true) (b2 : (c.unfollowed == P.unfollowed f) = true) (b3 : (c.recurses == P.recurses f) = true) (b4 : (c.named == P.varsNamed f) = true)
    (c1 : (c.maps == (fn.params.toList ++ s.plain.varTypes P).any (P.mapsRec ·)) = true) (c2 : (c.ifaces == (fn.params.toList ++ s.plain.varTypes P).any (P.ifacesRec ·)) = true) (c3 : (c.mapsOut == P.mapsAmong fn.resultTypes.toList) = true)
    (c4 : (c.loops == (fn.params.toList ++ s.plain.varTypes P).any (P.loopsFrom ·)) = true) (c5 : (c.wideKeys == (fn.params.toList ++ s.plain.varTypes P ++ fn.resultTypes.toList).any (P.wideKeysFrom ·)) = true)
    (c6 : s.vars.all (P.varReadable ·) = true) (c7 : fn.resultTypes.all (fun t => P.readableRec t && decide (t < P.types.size)) = true) (c8 : (c.ifacesOut == fn.resultTypes.toList.any (P.ifacesRec ·)) = true) (c9 : (c.loopsOut == fn.resultTypes.toList.any (P.loopsFrom ·)) = true)
    (d1 : (c.plainKeys == P.plainKeys) = true) (d2 : c.shortTexts.isNone = true) (d3 : P.stopsHeard = true) (d4 : P.mayEnter = true) (d5 : P.liftsFinal = false) (d6 : c.lifted = false) (d7 : P.make = some .cut) (d7' : c.make = .cut)
    (d8 : c.kinds = []) (d0 : c.domain = []) (d9 : (c.pinned == c.pinnedBy) = true)
    (e1 : (c.veiled == (fn.params.toList ++ s.plain.varTypes P ++ fn.resultTypes.toList).any (P.veiledRec ·)) = true) (e2 : c.veiledFits P fn.params.toList (fn.params.toList ++ s.plain.varTypes P ++ fn.resultTypes.toList) = true) :
    joinedFacts P f fn s c = true := by
  unfold joinedFacts
  rw [a1, a2, a3, a4, a5, a6, a7, a8, a9, b1, b2, b3, b4, c1, c2, c3, c4, c5, c6, c7, c8, c9, d1, d2, d3, d4, d5, d6, d7, d7', d8, d0, d9, e1, e2]
  rfl

section
variable {H : Type} {enc : TypeId × Value → H}

set_option maxRecDepth 100000 in
/-- All arguments read behind the call as they read before it, one after the other. -/
theorem trodAll_below {W W' : World} (hb : Below W.heap.size W W') : ∀ (ts : List TypeId) (vs : List Value) (ds : List (DataW H)) (ps : List MemPlace),
    (∀ t ∈ ts, Tryz.prog.readableRec t = true ∧ t < Tryz.prog.types.size) → (∀ x ∈ ps, x.block < W.heap.size) →
    DataW.TrodAll enc Tryz.prog W 0 (fun _ => true) true ts vs ds ps → DataW.TrodAll enc Tryz.prog W' 0 (fun b => decide (b < W.heap.size)) true ts vs ds ps
  | [], vs, ds, ps, _, _, h => by
    obtain ⟨rfl, rfl, rfl⟩ := trodAll_nil h
    exact trodAll_mk0
  | t :: ts, vs, ds, ps, ht, hp, h => by
    obtain ⟨v, vs', d, ds', p, q, rfl, rfl, rfl, h0, r0⟩ := trodAll_cons h
    have h1 := ht t (List.mem_cons_self)
    exact trodAll_cons_mk (Below.trod laidOut h1.1 h1.2 h0 hb (fun x hx => hp x (by simp [hx])))
      (trodAll_below hb ts vs' ds' q (fun t' h' => ht t' (List.mem_cons_of_mem _ h')) (fun x hx => hp x (by simp [hx])) r0)

set_option maxRecDepth 100000 in
/-- A slice of ints that came in reads as a list. -/
theorem open_trod_row {W : World} {base fuel : Nat} {v : Value} {y : DataW H × List MemPlace} (h : DataW.trod enc Tryz.prog W base (fun _ => true) true fuel 22 [v] = some y) (hlt : ∀ x ∈ y.2, x.block < W.heap.size) :
    ∃ A n c xs, v = .slice A n c ∧ Rd W A n xs := by
  rcases open_ints Tryz.underlying22 Tryz.underlying3 rkI h with ⟨hcs, hx⟩ | ⟨a, len, cap, zs, hcs, _, hl, hm, hz, hx, hcell, hwz⟩
  · injection hcs with hv _
    exact ⟨none, 0, 0, [], hv, Rd.nil _ _⟩
  · injection hcs with hv _
    have hz' : zs.length = cap := by simpa using hz
    refine ⟨some a, len, cap, zs.take len, hv, by rw [List.length_take]; omega, by unfold maxLen at hm; omega, fun k hk => ?_⟩
    have hck := hcell k (by omega)
    obtain ⟨b, off, spot⟩ := a
    have hspot : spot = none := by simpa [Addr.add] using World.cell?_spot (hcell 0 (by omega))
    subst hspot
    have hbW : b < W.heap.size := hlt (.cell b off) (by rw [hx]; exact MemPlace.mem_row.2 ⟨0, by omega, by simp⟩)
    refine ⟨b, off, zs.getD k 0, rfl, hbW, ?_, ?_⟩
    · rw [List.getElem?_take, if_pos hk, List.getD_eq_getElem?_getD, List.getElem?_eq_getElem (by omega)]; rfl
    · rw [← add_plain]; exact hck

set_option maxRecDepth 100000 in
theorem open_row {W : World} {base : Nat} {v : Value} {d : DataW H} {p : List MemPlace} {r : Reach} {b0 : Nat} (hv : Value.okWide Tryz.prog W r b0 22 v) (h : DataW.Trod enc Tryz.prog W base (fun _ => true) true 22 v d p) (hlt : ∀ x ∈ p, x.block < W.heap.size) :
    ∃ A n c xs, v = .slice A n c ∧ Rd W A n xs := by
  obtain ⟨a0, len, cap, hv'⟩ := okWide_slice Tryz.underlying22 hv
  obtain ⟨fuel, hf⟩ := h
  rw [hv'] at hf ⊢
  exact open_trod_row hf hlt

set_option maxRecDepth 100000 in
theorem open_leaper {W : World} {base : Nat} {v : Value} {d : DataW H} {p : List MemPlace} {r : Reach} {b0 : Nat} (hv : Value.okWide Tryz.prog W r b0 26 v) (h : DataW.Trod enc Tryz.prog W base (fun _ => true) true 26 v d p) :
    ∃ a b, v = lpr a b := by
  obtain ⟨c0, c1, y0, y1, m, hv', _, _, hy0, hy1⟩ := open_agg2 Tryz.underlying26 (by kernel_rfl) rkL hv h
  obtain ⟨a, e0, _, _⟩ := DataW.trod_int Tryz.underlying3 hy0
  obtain ⟨b, e1, _, _⟩ := DataW.trod_int Tryz.underlying3 hy1
  injection e0 with e0 _
  injection e1 with e1 _
  exact ⟨a, b, by rw [hv', e0, e1]⟩

set_option maxRecDepth 100000 in
theorem open_board {W : World} {base : Nat} {v : Value} {d : DataW H} {p : List MemPlace} {r : Reach} {b0 : Nat} (hv : Value.okWide Tryz.prog W r b0 24 v) (h : DataW.Trod enc Tryz.prog W base (fun _ => true) true 24 v d p) (hlt : ∀ x ∈ p, x.block < W.heap.size) :
    ∃ V G A n c xs, v = brd V G A n c ∧ Rd W A n xs := by
  obtain ⟨c0, c1, c2, y0, y1, y2, m, hv', _, hp, hy0, hy1, hy2⟩ := open_agg3 Tryz.underlying24 (by kernel_rfl) rkB hv h
  obtain ⟨a, e0, _, _⟩ := DataW.trod_int Tryz.underlying3 hy0
  obtain ⟨b, e1, _, _⟩ := DataW.trod_int Tryz.underlying3 hy1
  injection e0 with e0 _
  injection e1 with e1 _
  obtain ⟨A, n, c, xs, e2, hr⟩ := open_trod_row hy2 (fun x hx => hlt x (by rw [hp]; simp [hx]))
  exact ⟨a, b, A, n, c, xs, by rw [hv', e0, e1, e2], hr⟩

set_option maxRecDepth 100000 in
/-- The statement's end: the law has answered true, and nothing that was there has turned. -/
theorem law_post {f : Func} {s : ChangeSpec} {W W' : World} {args : Array Value} {ds : List (DataW H)} {before : List MemPlace} (hf : f.resultTypes = #[4])
    (hps : ∀ t ∈ f.params.toList, Tryz.prog.readableRec t = true ∧ t < Tryz.prog.types.size)
    (hW : DataW.Whole enc Tryz.prog f.params.toList s.vars false W args.toList ds [] before)
    (hA : DataW.TrodAll enc Tryz.prog W 0 (fun _ => true) true f.params.toList args.toList ds before)
    (hr : (s.fn H (ds ++ [])).results = [.lit (.bool true)]) (ha : (s.fn H (ds ++ [])).args = ds) (hv : (s.fn H (ds ++ [])).vars = []) (hsv : s.vars = [])
    (hb : Below W.heap.size W W') : s.post enc Tryz.prog f false true false false W args (.bool true) W' := by
  refine ⟨_, _, _, [], before, [], hW, ?_, ?_, ?_, hb.frame _, fun h => by cases h⟩
  · rw [hf, hr]; exact trodAll_mk1 (shut_bool Tryz.underlying4 _)
  · rw [ha]; exact trodAll_below hb _ _ _ _ hps (fun x hx => by simpa using hW.lt x hx) hA
  · rw [hv, hsv]; rfl

end
end Go.Proofs.YtomfgjbicpeggaaGreatDoor

namespace Go.Proofs.YtomfgjbicpeggaaGreatDoor
open Go.ChangeShapes Go.WideShapes Go.ChangeAt Go.RowKit

abbrev laidTab {H : Type} : List (String × DataW H) := [("math/bits.deBruijn64tab", Rows.laid_math_bits_deBruijn64tab)]
theorem tab_name : Tryz.prog.globalNamed "math/bits.deBruijn64tab" = some 0 := by kernel_rfl
theorem tab_type : (Tryz.prog.globals[0]?).map (·.type) = some (Tryz.tz64_ren.t 54) := by kernel_rfl
theorem tab_under : Tryz.prog.underlying (Tryz.tz64_ren.t 54) = some (.array 64 (Tryz.tz64_ren.t 5)) := Tryz.tz64.t54
theorem tab_elem : Tryz.prog.underlying (Tryz.tz64_ren.t 5) = some (.int .u8) := Tryz.tz64.t5
theorem tab_cells : Tryz.prog.cellsOf (Tryz.tz64_ren.t 54) = 64 := by kernel_rfl
theorem tab_one : Tryz.prog.cellsOf (Tryz.tz64_ren.t 5) = 1 := by kernel_rfl
theorem tab_datum : (Rows.laid_math_bits_deBruijn64tab : DataW Unit) = Lib.tabData .u8 (Lib.deBruijn64tab.map fun n : Nat => (n : Int)) := by kernel_rfl
theorem tab_of_laid {W : World} (h : laidMetH Tryz.prog laidTab W) : Tab64 W ∧ 0 < W.heap.size := by
  rw [MakeChecks.laidMetH_plain _ _ _ (by kernel_rfl), laidTab, tab_datum] at h
  have hT := Lib.tabIs_of_head tab_name tab_type tab_under tab_elem tab_one tab_cells h
  have hc : Tab64 W := by
    intro j hj
    have := hT.cell tab_name j (by simpa using hj)
    rw [this]
    simp [List.getD_eq_getElem?_getD, List.getElem?_map, List.getElem?_eq_getElem hj]
  exact ⟨hc, World.block_lt_of_cell? _ _ (hc 0 (by decide))⟩
set_option maxRecDepth 100000 in
/-- The door's own heap meets the condition. -/
theorem door_met (os : Os) (args : Array Value) : laidMetH Tryz.prog laidTab ((World.doorLaid Tryz.prog 400 os).forCall (fun _ _ => 0) ⟨#[], args, []⟩).memory :=
  laidMetH_of_parts3 (fuel := 8) (laidMet_of_run' 8 (by kernel_rfl) (by kernel_rfl)) (by kernel_rfl) (by kernel_rfl)
end Go.Proofs.YtomfgjbicpeggaaGreatDoor

namespace Go.Proofs.YtomfgjbicpeggaaGreatDoor
open Go.RowKit

theorem OwnI.span {E : TypeId} {w : World} {lo : Nat} {A : Option Addr} {n c : Nat} {xs : List Int} (h : OwnI E w lo A n c xs) : ∀ a, A = some a → lo ≤ a.block ∧ a.block < w.heap.size := by
  intro a ha
  rcases h.form with ⟨h0, _⟩ | ⟨g, h1, h2, h3, _⟩
  · rw [h0] at ha; cases ha
  · rw [h1] at ha; injection ha with ha; subst ha; exact ⟨h2, h3⟩
theorem row_ne {A : Option Addr} {β : Nat} (h : ∀ a, A = some a → β ≠ a.block) : some β ≠ rowOf A := by
  cases A with
  | none => simp [rowOf]
  | some a => have := h a rfl; simp [rowOf]; exact this
theorem cell_mark {w w' : World} {b i : Nat} {v : Value} {row : Option Nat} (h : w.cell? ⟨b, i, none⟩ = some v) (hg : w.grownBy w' row) (hne : some b ≠ row) : w'.cell? ⟨b, i, none⟩ = some v := hg.cell h hne
theorem row_ge {A : Option Addr} {β : Nat} (h : ∀ a, A = some a → β ≤ a.block) : ∀ k, rowOf A = some k → β ≤ k := by
  intro k hk
  cases A with
  | none => simp [rowOf] at hk
  | some a => have := h a rfl; simp [rowOf] at hk; omega
theorem World.lt_alloc (w : World) (o : Obj) : w.heap.size + 1 ≤ (w.alloc o).heap.size := by simp
theorem World.le_alloc (w : World) (o : Obj) : w.heap.size ≤ (w.alloc o).heap.size := by simp

end Go.Proofs.YtomfgjbicpeggaaGreatDoor

namespace Go.Proofs.YtomfgjbicpeggaaGreatDoor
open Go.RowKit Go.Maps

/-- An element reads as itself. -/
def rawR (v : Value) : Option (DataW Value × List MemPlace) := some (.held v, [])
/-- Block b of w is a map from ints with at most n entries; under x it gives f x (z: what it gives where there is no entry). -/
def MapI (P : Program) (k : TypeId) (w : World) (b n : Nat) (z : Value) (f : Int → Value) : Prop :=
  ∃ D : DataW Value, w.ownsMap P k rawR b n D ∧ IsMap D ∧ ∀ x, D.atKey (.int .i64 x) (.held z) = .held (f x)

section
variable {P : Program} {k e t : TypeId} {w w' : World} {b n : Nat} {z : Value} {f : Int → Value}
theorem MapI.made (P : Program) (k : TypeId) (w : World) (z : Value) : MapI P k (w.alloc (.map #[] 0)) w.heap.size 0 z (fun _ => z) :=
  ⟨_, World.ownsMap_made _ _ _ _, isMap_empty, fun _ => rfl⟩
theorem MapI.lt (h : MapI P k w b n z f) : b < w.heap.size := by obtain ⟨D, h, _⟩ := h; exact h.lt
theorem MapI.other {row : Option Nat} (h : MapI P k w b n z f) (hg : w.grownBy w' row) (hne : some b ≠ row) : MapI P k w' b n z f := by
  obtain ⟨D, h1, h2, h3⟩ := h
  exact ⟨D, h1.kept hg hne, h2, h3⟩
theorem MapI.keep (h : MapI P k w b n z f) (hb : Below w.heap.size w w') : MapI P k w' b n z f := h.other (grown_of_below hb none) (by simp)
theorem MapI.lookup (h : MapI P k w b n z f) (hk : P.underlying k = some (.int .i64)) (ht : P.underlying t = some (.map k e)) (hz : (zeroValue e).run P w = .ok z w) {x : Int} (hx : (Lit.int .i64 x).wf = true) :
    (Instr.lookup t (.map (some b)) (.int .i64 x) false).run P w = .ok (f x) w := by
  obtain ⟨D, h1, h2, h3⟩ := h
  obtain ⟨v, ps, hr, hv⟩ := h1.lookup (int_keyed hk) ht hz (show rawR z = some (.held z, []) from rfl) (keyOf_int_mk hk hx)
  rw [h3 x] at hv
  injection hv with hv
  injection hv with hv _
  injection hv with hv
  rw [hr, hv]
theorem wpList_update {ops : Array Oper} {rest : List Oper} {o : Oper} {a : Act} {Q : Exit → Act → World → Prop}
    (hg : o.guard = none) (m x v : Operand) (hop : o.op = Op.mapUpdate t m x v) (hk : P.underlying k = some (.int .i64)) (ht : P.underlying t = some (.map k e))
    (hm : a.eval m = .map (some b)) (hown : MapI P k w b n z f) (hn : n < 1000000) (q : Int) (val : Value) (hx : a.eval x = .int .i64 q) (hv : a.eval v = val) (hq : (Lit.int .i64 q).wf = true)
    (hK : ∀ w', MapI P k w' b (n + 1) z (fun y => if y = q then val else f y) → w.grownBy w' (some b) → wpList P ops Q rest (a.put o.dst undef) w') :
    wpList P ops Q (o :: rest) a w := by
  obtain ⟨D, h1, h2, h3⟩ := hown
  refine wpList_mapUpdate_own w hg m x v t hop k e (int_keyed hk) ht rawR b n D hm h1 (by unfold maxLen; omega) _ _ (.int .i64 q) hx hv (keyOf_int_mk hk hq) (.held val) [] rfl ?_
  intro w' hw hgr
  refine hK w' ⟨_, hw, h2.put _ _, fun y => ?_⟩ hgr
  show _ = DataW.held (if y = q then val else f y)
  by_cases e : y = q
  · subst e
    rw [if_pos rfl]
    exact atKey_put_same h2 (by trivial) _ _
  · rw [if_neg e, atKey_put_other (fun h => e (by injection h)) _ _]
    exact h3 y
end

end Go.Proofs.YtomfgjbicpeggaaGreatDoor

namespace Go.Proofs.YtomfgjbicpeggaaGreatDoor
open Go.RowKit

theorem filter_yes {f : Int → Bool} {l : List Int} {k : Nat} {x : Int} (hx : l[k]? = some x) (h : f x = true) : (l.take (k + 1)).filter f = (l.take k).filter f ++ [x] := by
  rw [List.take_add_one, hx, List.filter_append]; simp [h]
theorem filter_no {f : Int → Bool} {l : List Int} {k : Nat} {x : Int} (hx : l[k]? = some x) (h : f x = false) : (l.take (k + 1)).filter f = (l.take k).filter f := by
  rw [List.take_add_one, hx, List.filter_append]; simp [h]
theorem filter_len_le {f : Int → Bool} {l : List Int} {k : Nat} : ((l.take k).filter f).length ≤ k := Nat.le_trans (List.length_filter_le _ _) (by rw [List.length_take]; omega)
theorem cellsL_len64 {W H : Int} {xs : List Int} (hN : 1 ≤ W * H ∧ W * H ≤ 64) : (cellsL W H xs).length ≤ 64 := by
  have := cellsTo_len (W := W) (H := H) (hs := xs) (W * H).toNat; unfold cellsL; omega
theorem leapsL_len64 {W H a b q : Int} {xs : List Int} (hN : 1 ≤ W * H ∧ W * H ≤ 64) : (leapsL W H xs a b q).length ≤ 64 := Nat.le_trans (List.length_filter_le _ _) (cellsL_len64 hN)

set_option maxRecDepth 100000 in
set_option maxHeartbeats 2000000 in
theorem boLeaps_any (W H : Int) (A : Option Addr) (n c : Nat) (xs : List Int) (a b : Int) (q : Int) (w : World) (ha : Rd w A n xs) (hg : goodB W H xs = true) (hq : 0 ≤ q ∧ q ≤ 64) :
    Calls Tryz.prog 41 #[brd W H A n c, lpr a b, .int .i64 q] w fun e w' => ∃ A' n' c', e = .returned (.slice A' n' c') ∧ OwnI 3 w' w.heap.size A' n' c' (leapsL W H xs a b q) ∧ Below w.heap.size w w' := by
  have HQ := Lib.hid hq
  clear hq
  obtain ⟨hW, hH, _, _⟩ := goodB_iff.1 hg
  have HW := Lib.hid hW; have HN := Lib.hid (cells_le hW hH)
  have HG := Lib.hid hg
  obtain ⟨i0, hi, hz0, hz1, hz2⟩ := info_parts infoI
  have HI := Lib.hid hi; have HZ0 := Lib.hid hz0; have HZ1 := Lib.hid hz1; have HZ2 := Lib.hid hz2
  clear hW hH hg hi hz0 hz1 hz2
  obtain ⟨W2, hW2⟩ : ∃ W2, W2 = (w.alloc (.cells #[.int .i64 W, .int .i64 H, .slice A n c] 30)).alloc (.cells #[.int .i64 a, .int .i64 b] 32) := ⟨_, rfl⟩
  have a0 : W2.cell? ⟨w.heap.size, 0, none⟩ = some (.int .i64 W) := by rw [hW2]; go_simp
  have a1 : W2.cell? ⟨w.heap.size, 1, none⟩ = some (.int .i64 H) := by rw [hW2]; go_simp
  have a2 : W2.cell? ⟨w.heap.size, 2, none⟩ = some (.slice A n c) := by rw [hW2]; go_simp
  have l0 : W2.cell? ⟨w.heap.size + 1, 0, none⟩ = some (.int .i64 a) := by rw [hW2]; go_simp
  have l1 : W2.cell? ⟨w.heap.size + 1, 1, none⟩ = some (.int .i64 b) := by rw [hW2]; go_simp
  have hsz : w.heap.size + 2 ≤ W2.heap.size := by rw [hW2]; simp
  have B := Lib.hid (show Below w.heap.size w W2 by rw [hW2]; exact below_new (below_new (Below.refl _ _) _) _)
  have R := Lib.hid (ha.keep B.out)
  have ga : w.heap.size < W2.heap.size := by omega
  have gl : w.heap.size + 1 < W2.heap.size := by omega
  go_enter Tryz.func41, Tryz.ntmps41
  go_wp2_with fail
  rw [← hW2]
  clear hW2
  refine (boCells_any W H A n c xs _ R.out HN.out).mono ?_
  rintro e ws ⟨A1, n1, c1, rfl, hst, hb⟩
  replace a0 := cell_keep a0 ga hb; replace a1 := cell_keep a1 ga hb; replace a2 := cell_keep a2 ga hb; replace l0 := cell_keep l0 gl hb; replace l1 := cell_keep l1 gl hb; replace ga := lt_keep ga hb; replace gl := lt_keep gl hb; replace R := Lib.hid (R.out.keep hb)
  have hB0 := B.out.size
  replace B := Lib.hid (below_next B.out hb)
  have hs1 := hb.size
  have ST := Lib.hid hst.rd
  have SL := Lib.hid hst.len
  have n8 : n1 ≤ 64 := by have := cellsTo_len (W := W) (H := H) (hs := xs) (W * H).toNat; have := hst.len; have := HN.out; unfold cellsL at *; omega
  have n9 := hst.rd.2.1
  clear hst hb
  go_wp2
  go_loopw [7, 13] (fun v i wr => ∃ (k n' c' : Nat) (A' : Option Addr), k ≤ n1 ∧ i = .int .i64 k ∧ v = .slice A' n' c' ∧ OwnI 3 wr ws.heap.size A' n' c' (((cellsL W H xs).take k).filter (leapB W a b q)) ∧ Below ws.heap.size ws wr) (fun _ i _ => n1 - (intOf i).toNat)
  case atStart => exact ⟨0, 0, 0, none, by omega, rfl, rfl, OwnI.none_ _ _ _, Below.refl _ _⟩
  case round =>
    obtain ⟨k, n', c', A', hk, rfl, rfl, hown, hbw⟩ := hrel
    have hn' : n' ≤ 64 := by have := hown.len; have := filter_len_le (f := leapB W a b q) (l := cellsL W H xs) (k := k); omega
    by_cases hlt : k < n1
    · obtain ⟨bb, oo, x, rfl, hg1, hx, x0⟩ := ST.out.at_ hlt
      have HX := Lib.hid hx
      have hin := cellsL_mem.1 (List.mem_of_getElem? hx)
      have HIN := Lib.hid hin
      have HXR := Lib.hid (range_of HN.out hin)
      replace x0 := cell_keep x0 hg1 hbw
      have b0 := cell_keep a0 ga hbw; have b1 := cell_keep a1 ga hbw; have b2 := cell_keep a2 ga hbw; have m0 := cell_keep l0 gl hbw; have m1 := cell_keep l1 gl hbw
      have gb := lt_keep ga hbw; have gm := lt_keep gl hbw
      have RR := Lib.hid (R.out.keep hbw)
      have HO := Lib.hid hown; have HB := Lib.hid hbw
      have hsw := hbw.size
      clear hx hin hown hbw
      cases hs : leapB W a b q x with
      | true =>
        have HS := Lib.hid hs
        clear hs
        go_wp2_with fail
        refine (boIs_any W H A n c a b q x _ HW.out HQ.out HXR.out).mono ?_
        rw [HS.out]
        rintro e wv ⟨rfl, hb⟩
        replace b0 := cell_keep b0 gb hb; replace b1 := cell_keep b1 gb hb; replace b2 := cell_keep b2 gb hb; replace m0 := cell_keep m0 gm hb; replace m1 := cell_keep m1 gm hb; replace gb := lt_keep gb hb; replace gm := lt_keep gm hb; replace RR := Lib.hid (RR.out.keep hb); replace HO := Lib.hid (HO.out.keep hb); replace HB := Lib.hid (HB.out.trans (hb.mono (by omega))); replace hsw := Nat.le_trans hsw hb.size; clear hb
        go_wp2_with (at_builtin; refine wpList_app1 rfl (.tmp 22) (.tmp 24) 22 3 rfl i0 Tryz.underlying22 HI.out HZ0.out HZ1.out HZ2.out ws.heap.size A' n' c' (((cellsL W H xs).take k).filter (leapB W a b q)) x rfl HO.out rfl (by omega) hsw ?_; intro A2 c2 w2 hown2 hb2)
        have HO2 := Lib.hid hown2; have HB2 := Lib.hid (HB.out.trans hb2)
        clear hown2 hb2
        go_wp2
        go_roundw
        case rel => exact ⟨k + 1, n' + 1, c2, A2, by omega, by go_num, rfl, by rw [filter_yes HX.out HS.out]; exact HO2.out, HB2.out⟩
        case measure => simp [intOf]; omega
      | false =>
        have HS := Lib.hid hs
        clear hs
        go_wp2_with fail
        refine (boIs_any W H A n c a b q x _ HW.out HQ.out HXR.out).mono ?_
        rw [HS.out]
        rintro e wv ⟨rfl, hb⟩
        replace b0 := cell_keep b0 gb hb; replace b1 := cell_keep b1 gb hb; replace b2 := cell_keep b2 gb hb; replace m0 := cell_keep m0 gm hb; replace m1 := cell_keep m1 gm hb; replace gb := lt_keep gb hb; replace gm := lt_keep gm hb; replace RR := Lib.hid (RR.out.keep hb); replace HO := Lib.hid (HO.out.keep hb); replace HB := Lib.hid (HB.out.trans (hb.mono (by omega))); replace hsw := Nat.le_trans hsw hb.size; clear hb
        go_wp2
        go_roundw
        case rel => exact ⟨k + 1, n', c', A', by omega, by go_num, rfl, by rw [filter_no HX.out HS.out]; exact HO.out, HB.out⟩
        case measure => simp [intOf]; omega
    · have e2 : (cellsL W H xs).take k = cellsL W H xs := List.take_of_length_le (by have := SL.out; omega)
      rw [e2] at hown
      have HO := Lib.hid hown; have HB := Lib.hid hbw
      clear hown hbw e2
      go_wp2
      go_ret
      exact ⟨A', n', c', rfl, HO.out.lower (by omega), B.out.trans (HB.out.mono (by omega))⟩

def degL (W H : Int) (xs : List Int) (a b : Int) : List Int := (cellsL W H xs).map fun q => ((leapsL W H xs a b q).length : Int)

end Go.Proofs.YtomfgjbicpeggaaGreatDoor

namespace Go.Proofs.YtomfgjbicpeggaaGreatDoor
open Go.RowKit

theorem two_N {W H a b : Int} {xs : List Int} (h : (goodB W H xs && leaperB a b) = true) : 1 ≤ W * H ∧ W * H ≤ 64 := by
  simp only [Bool.and_eq_true] at h
  obtain ⟨hW, hH, _, _⟩ := goodB_iff.1 h.1
  exact cells_le hW hH
theorem two_g {W H a b : Int} {xs : List Int} (h : (goodB W H xs && leaperB a b) = true) : goodB W H xs = true := by simp only [Bool.and_eq_true] at h; exact h.1
theorem two_l {W H a b : Int} {xs : List Int} (h : (goodB W H xs && leaperB a b) = true) : leaperB a b = true := by simp only [Bool.and_eq_true] at h; exact h.2
def okFrom (W H : Int) (xs : List Int) (a b q : Int) : Bool := leaperB a b && hasV W H xs q
def leapsFromV (W H : Int) (xs : List Int) (a b q : Int) : List Int := if okFrom W H xs a b q then leapsL W H xs a b q else []
def okTwo (W H : Int) (xs : List Int) (a b : Int) : Bool := leaperB a b && goodB W H xs
def degreesV (W H : Int) (xs : List Int) (a b : Int) : List Int := if okTwo W H xs a b then degL W H xs a b else []

end Go.Proofs.YtomfgjbicpeggaaGreatDoor

namespace Go.Proofs.YtomfgjbicpeggaaGreatDoor
open Go.RowKit

end Go.Proofs.YtomfgjbicpeggaaGreatDoor

namespace Go.Proofs.YtomfgjbicpeggaaGreatDoor
open Go.RowKit

/-- The slice value v reads as l, in a block of its own from lo on that is not mb. -/
def RowAt (w : World) (lo mb : Nat) (v : Value) (l : List Int) : Prop := ∃ A n c, v = .slice A n c ∧ Rd w A n l ∧ n ≤ 64 ∧ ∀ y, A = some y → lo ≤ y.block ∧ y.block < w.heap.size ∧ y.block ≠ mb
theorem RowAt.keep {w w' : World} {lo mb : Nat} {v : Value} {l : List Int} (h : RowAt w lo mb v l) (hb : Below w.heap.size w w') : RowAt w' lo mb v l := by
  obtain ⟨A, n, c, rfl, h1, h2, h3⟩ := h
  exact ⟨A, n, c, rfl, h1.keep hb, h2, fun y hy => ⟨(h3 y hy).1, Nat.lt_of_lt_of_le (h3 y hy).2.1 hb.size, (h3 y hy).2.2⟩⟩
theorem RowAt.other {w w' : World} {lo mb : Nat} {v : Value} {l : List Int} (h : RowAt w lo mb v l) (hg : w.grownBy w' (some mb)) : RowAt w' lo mb v l := by
  obtain ⟨A, n, c, rfl, h1, h2, h3⟩ := h
  exact ⟨A, n, c, rfl, h1.other hg (fun y hy => by have := (h3 y hy).2.2; simpa using this), h2, fun y hy => ⟨(h3 y hy).1, Nat.lt_of_lt_of_le (h3 y hy).2.1 hg.size, (h3 y hy).2.2⟩⟩
/-- Block mb is a map that has for each of the cells the row adj gives. -/
def OnMap (w : World) (lo mb : Nat) (cells : List Int) (adj : Int → List Int) : Prop :=
  lo ≤ mb ∧ ∃ (n : Nat) (f : Int → Value), n ≤ 64 ∧ MapI Tryz.prog 3 w mb n (.slice none 0 0) f ∧ ∀ x ∈ cells, RowAt w lo mb (f x) (adj x)
theorem OnMap.keep {w w' : World} {lo mb : Nat} {cells : List Int} {adj : Int → List Int} (h : OnMap w lo mb cells adj) (hb : Below w.heap.size w w') : OnMap w' lo mb cells adj := by
  obtain ⟨h0, n, f, h1, h2, h3⟩ := h
  exact ⟨h0, n, f, h1, h2.keep hb, fun x hx => (h3 x hx).keep hb⟩
theorem OnMap.lt {w : World} {lo mb : Nat} {cells : List Int} {adj : Int → List Int} (h : OnMap w lo mb cells adj) : mb < w.heap.size := by
  obtain ⟨_, n, f, _, h2, _⟩ := h; exact h2.lt
theorem wf_small {x : Int} (h : 0 ≤ x ∧ x ≤ 64) : (Lit.int .i64 x).wf = true := by
  have := Go.RowKit.wrap64_wf x
  rwa [show wrap64 x = x by unfold wrap64; omega] at this
theorem zero_ints : ∀ w, (zeroValue 22).run Tryz.prog w = .ok (.slice none 0 0) w := fun _ => by kernel_rfl
theorem OnMap.lookup {w : World} {lo mb : Nat} {cells : List Int} {adj : Int → List Int} (h : OnMap w lo mb cells adj) {x : Int} (hx : x ∈ cells) (hr : 0 ≤ x ∧ x ≤ 64) :
    ∃ A n c, (Instr.lookup 49 (.map (some mb)) (.int .i64 x) false).run Tryz.prog w = .ok (.slice A n c) w ∧ Rd w A n (adj x) ∧ n ≤ 64 := by
  obtain ⟨_, m, f, _, h2, h3⟩ := h
  obtain ⟨A, n, c, hv, h4, h5, _⟩ := h3 x hx
  exact ⟨A, n, c, by rw [h2.lookup Tryz.underlying3 Tryz.underlying49 (zero_ints w) (wf_small hr), hv], h4, h5⟩

set_option maxRecDepth 100000 in
set_option maxHeartbeats 2000000 in
theorem onwardOf_any (W H : Int) (A : Option Addr) (n c : Nat) (xs : List Int) (a b : Int) (w : World) (ha : Rd w A n xs) (hg : goodB W H xs = true) (hl : leaperB a b = true) :
    Calls Tryz.prog 21 #[brd W H A n c, lpr a b] w fun e w' => ∃ mb, e = .returned (.map (some mb)) ∧ OnMap w' w.heap.size mb (cellsL W H xs) (leapsL W H xs a b) ∧ Below w.heap.size w w' := by
  have HL := Lib.hid hl
  clear hl
  obtain ⟨hW, hH, _, _⟩ := goodB_iff.1 hg
  have HW := Lib.hid hW; have HN := Lib.hid (cells_le hW hH)
  have HG := Lib.hid hg
  obtain ⟨i0, hi, hz0, hz1, hz2⟩ := info_parts infoI
  have HI := Lib.hid hi; have HZ0 := Lib.hid hz0; have HZ1 := Lib.hid hz1; have HZ2 := Lib.hid hz2
  clear hW hH hg hi hz0 hz1 hz2
  obtain ⟨W2, hW2⟩ : ∃ W2, W2 = ((w.alloc (.cells #[.int .i64 W, .int .i64 H, .slice A n c] 30)).alloc (.cells #[.int .i64 a, .int .i64 b] 32)).alloc (.map #[] 0) := ⟨_, rfl⟩
  have a0 : W2.cell? ⟨w.heap.size, 0, none⟩ = some (.int .i64 W) := by rw [hW2]; go_simp
  have a1 : W2.cell? ⟨w.heap.size, 1, none⟩ = some (.int .i64 H) := by rw [hW2]; go_simp
  have a2 : W2.cell? ⟨w.heap.size, 2, none⟩ = some (.slice A n c) := by rw [hW2]; go_simp
  have l0 : W2.cell? ⟨w.heap.size + 1, 0, none⟩ = some (.int .i64 a) := by rw [hW2]; go_simp
  have l1 : W2.cell? ⟨w.heap.size + 1, 1, none⟩ = some (.int .i64 b) := by rw [hW2]; go_simp
  have hsz : w.heap.size + 3 ≤ W2.heap.size := by rw [hW2]; simp
  have B := Lib.hid (show Below w.heap.size w W2 by rw [hW2]; exact below_new (below_new (below_new (Below.refl _ _) _) _) _)
  have R := Lib.hid (ha.keep B.out)
  have ga : w.heap.size < W2.heap.size := by omega
  have gl : w.heap.size + 1 < W2.heap.size := by omega
  have hmp : MapI Tryz.prog 3 W2 (w.heap.size + 2) 0 (.slice none 0 0) (fun _ => .slice none 0 0) := by
    rw [hW2]
    have := MapI.made Tryz.prog 3 ((w.alloc (.cells #[.int .i64 W, .int .i64 H, .slice A n c] 30)).alloc (.cells #[.int .i64 a, .int .i64 b] 32)) (.slice none 0 0)
    simpa using this
  have MP := Lib.hid hmp
  clear hmp
  have hmm := @run_makeMap Tryz.prog
  go_enter Tryz.func21, Tryz.ntmps21
  go_wp2_with fail
  rw [← hW2]
  obtain ⟨mb, hmb⟩ : ∃ mb, mb = w.heap.size + 1 + 1 := ⟨_, rfl⟩
  rw [show w.heap.size + 2 = mb by omega] at MP
  rw [← hmb]
  have hmb1 : w.heap.size + 2 ≤ mb := by omega
  have hmb2 : mb < W2.heap.size := by omega
  clear hW2 hmm hmb
  refine (cellsThere_any W H A n c xs _ R.out HG.out).mono ?_
  rintro e ws ⟨A1, n1, c1, rfl, hst, hb⟩
  replace a0 := cell_keep a0 ga hb; replace a1 := cell_keep a1 ga hb; replace a2 := cell_keep a2 ga hb; replace l0 := cell_keep l0 gl hb; replace l1 := cell_keep l1 gl hb; replace ga := lt_keep ga hb; replace gl := lt_keep gl hb; replace R := Lib.hid (R.out.keep hb)
  have hB0 := B.out.size
  replace B := Lib.hid (below_next B.out hb)
  have hs1 := hb.size
  have ST := Lib.hid hst.rd
  have SL := Lib.hid hst.len
  have n8 : n1 ≤ 64 := by have := cellsTo_len (W := W) (H := H) (hs := xs) (W * H).toNat; have := hst.len; have := HN.out; unfold cellsL at *; omega
  have hA1 : Hid (∀ y, A1 = some y → mb < y.block) := Lib.hid (fun y hy => by
    rcases hst.form with ⟨h, _⟩ | ⟨g, h, h2, _⟩
    · rw [h] at hy; cases hy
    · rw [h] at hy; injection hy with hy; rw [← hy]; show mb < g; omega)
  have hmlt : mb < ws.heap.size := by omega
  have n9 := hst.rd.2.1
  replace MP := Lib.hid (MP.out.keep hb)
  clear hst hb
  go_wp2
  go_loopw [12] (fun i wr => ∃ (k : Nat) (f : Int → Value), k ≤ n1 ∧ i = .int .i64 k ∧ MapI Tryz.prog 3 wr mb k (.slice none 0 0) f ∧ (∀ x ∈ (cellsL W H xs).take k, RowAt wr w.heap.size mb (f x) (leapsL W H xs a b x)) ∧ ws.grownBy wr (some mb)) (fun i _ => n1 - (intOf i).toNat)
  case atStart => exact ⟨0, _, by omega, rfl, MP.out, by simp, grown_refl _ _⟩
  case round =>
    obtain ⟨k, f, hk, rfl, hm, hrows, hgw⟩ := hrel
    have hBw : Below w.heap.size w wr := B.out.trans (below_of_grown hgw (by omega) (fun g h => by injection h with h; omega))
    have HM := Lib.hid hm; have HR := Lib.hid hrows
    have HGW := Lib.hid hgw
    have hsw := hgw.size
    clear hm hrows
    by_cases hlt : k < n1
    · obtain ⟨bb, oo, x, rfl, hg1, hx, x0⟩ := ST.out.at_ hlt
      have hbm := hA1.out _ rfl
      simp only at hbm
      have HX := Lib.hid hx
      have hin := cellsL_mem.1 (List.mem_of_getElem? hx)
      have HXQ := Lib.hid (hasB_iff.1 hin).1
      have HXR := Lib.hid (range_of HN.out hin)
      replace x0 := hgw.cell x0 (by simp; omega)
      have b0 := hgw.cell a0 (by simp; omega); have b1 := hgw.cell a1 (by simp; omega); have b2 := hgw.cell a2 (by simp; omega); have m0 := hgw.cell l0 (by simp; omega); have m1 := hgw.cell l1 (by simp; omega)
      have RR := Lib.hid (ha.keep hBw)
      have HBW := Lib.hid hBw
      clear hx hin hgw hBw
      go_wp2_with fail
      refine (leapCells_any W H A n c xs a b x _ RR.out HG.out HL.out HXQ.out).mono ?_
      rintro e wv ⟨A3, n3, c3, rfl, hl3, hb⟩
      have hn3 : n3 ≤ 64 := by have := leapsL_len64 (W := W) (H := H) (xs := xs) (a := a) (b := b) (q := x) HN.out; have := hl3.len; omega
      have HL3 := Lib.hid hl3
      replace HM := Lib.hid (HM.out.keep hb)
      replace HR := Lib.hid (fun y hy => (HR.out y hy).keep hb)
      replace HGW := Lib.hid (grown_next HGW.out (grown_of_below hb (some mb)))
      have hsv := hb.size
      clear hl3 hb
      go_wp2_with (at_mapUpdate; refine wpList_update rfl (.tmp 16) (.tmp 17) (.tmp 21) rfl Tryz.underlying3 Tryz.underlying49 rfl HM.out (by omega) x (.slice A3 n3 c3) rfl rfl (wf_small HXR.out) ?_; intro w2 hm2 hg2)
      have HM2 := Lib.hid hm2; have HG2 := Lib.hid hg2
      clear hm2 hg2
      go_wp2
      go_roundw
      case rel =>
        refine ⟨k + 1, _, by omega, by go_num, HM2.out, fun y hy => ?_, grown_next HGW.out HG2.out⟩
        rw [List.take_add_one, HX.out] at hy
        rcases List.mem_append.1 hy with hy | hy
        · have hne : y ≠ x := by
            have hp := cellsL_pairwise W H xs
            have hlen : k < (cellsL W H xs).length := by have := SL.out; omega
            rw [← List.take_append_drop k (cellsL W H xs), List.pairwise_append] at hp
            have hxd : x ∈ (cellsL W H xs).drop k := by
              rw [drop_cons_of HX.out]; exact List.mem_cons_self
            have := hp.2.2 y hy x hxd
            omega
          rw [if_neg hne]
          exact (HR.out y hy).other HG2.out
        · simp at hy
          subst hy
          rw [if_pos rfl]
          have hrow : RowAt _ w.heap.size mb (.slice A3 n3 c3) (leapsL W H xs a b y) := ⟨A3, n3, c3, rfl, HL3.out.rd, hn3, fun z hz => by
            rcases HL3.out.form with ⟨h, _⟩ | ⟨g, h, h2, h3, _⟩
            · rw [h] at hz; cases hz
            · rw [h] at hz; injection hz with hz; rw [← hz]; exact ⟨by show w.heap.size ≤ g; omega, h3, by show g ≠ mb; omega⟩⟩
          exact hrow.other HG2.out
      case measure => simp [intOf]; omega
    · have e2 : (cellsL W H xs).take k = cellsL W H xs := List.take_of_length_le (by have := SL.out; omega)
      have HBW := Lib.hid hBw
      have hk64 : k ≤ 64 := by omega
      have HRR := Lib.hid (show OnMap wr w.heap.size mb (cellsL W H xs) (leapsL W H xs a b) from ⟨by omega, k, f, hk64, HM.out, by rw [← e2]; exact HR.out⟩)
      clear e2 hBw hgw
      go_wp2
      go_ret
      exact ⟨mb, rfl, HRR.out, HBW.out⟩


end Go.Proofs.YtomfgjbicpeggaaGreatDoor

namespace Go.Proofs.YtomfgjbicpeggaaGreatDoor
open Go.RowKit

section
variable {E : TypeId} {w w' : World} {lo g k0 n c : Nat} {xs : List Int}
theorem ownI_block {N C : Nat} {ys : List Int} (h : OwnI E w lo (some ⟨g, 0, none⟩) N C ys) : ∃ cur, w.heap[g]? = some (.cells cur E (0, 0)) ∧ lo ≤ g ∧ N ≤ C ∧ C ≤ maxLen ∧ cur.size = C ∧ cur.toList.take N = ys.map (Value.int .i64) := by
  rcases h.2 with ⟨hv, _⟩ | ⟨g', cap, cur, hv, hb, hg, hnc, hm, hcs, ht⟩
  · injection hv with h1; cases h1
  · injection hv with h1 h2 h3
    injection h1 with h1
    injection h1 with h1
    subst h1 h3
    exact ⟨cur, hg, hb, hnc, hm, by simpa using hcs, by simpa using ht⟩
theorem OwnI.cut {N C M : Nat} {ys : List Int} (h : OwnI E w lo (some ⟨g, 0, none⟩) N C ys) (hM : M ≤ N) : OwnI E w lo (some ⟨g, 0, none⟩) M C (ys.take M) := by
  obtain ⟨cur, hg, hb, hnc, hm, hcs, ht⟩ := ownI_block h
  have hl := h.len
  refine ⟨by simp; omega, .inr ⟨g, C, cur, rfl, hb, hg, by omega, hm, by simpa using hcs, ?_⟩⟩
  rw [Nat.mul_one, List.map_take, ← ht, List.take_take, Nat.min_eq_left hM]
theorem OwnI.extend {N C : Nat} {ys : List Int} (h : OwnI E w lo (some ⟨g, 0, none⟩) N C ys) (hN : N < C) (q : Int) :
    OwnI E (w.setCell ⟨g, N, none⟩ (.int .i64 q)) lo (some ⟨g, 0, none⟩) (N + 1) C (ys ++ [q]) ∧ w.grownBy (w.setCell ⟨g, N, none⟩ (.int .i64 q)) (some g) := by
  obtain ⟨cur, hg, hb, hnc, hm, hcs, ht⟩ := ownI_block h
  have hl := h.len
  refine ⟨⟨by simp [hl], .inr ⟨g, C, _, rfl, hb, heap_setCell_same w g N cur E (.int .i64 q) hg, by omega, hm, by simpa using hcs, ?_⟩⟩, (World.ownsRow.stored h N (.int .i64 q)).2⟩
  rw [Nat.mul_one, List.map_append, ← ht]
  simp only [Array.toList_setIfInBounds]
  apply List.ext_getElem?
  intro j
  rw [List.getElem?_take]
  by_cases h1 : j < N
  · rw [if_pos (by omega), List.getElem?_set_ne (by omega), List.getElem?_append_left (by rw [List.length_take, Array.length_toList]; omega), List.getElem?_take, if_pos h1]
  · by_cases h2 : j = N
    · subst h2
      rw [if_pos (by omega), List.getElem?_set_self (by rw [Array.length_toList]; omega), List.getElem?_append_right (by rw [List.length_take]; omega)]
      simp [hcs, Nat.min_eq_left (Nat.le_of_lt hN)]
    · rw [if_neg (by omega), List.getElem?_eq_none (by simp [hcs]; omega)]

/-- The slice '.slice (some ⟨g, k0⟩) n c' is a queue that reads as xs. -/
def QAt (E : TypeId) (w : World) (lo g k0 n c : Nat) (xs : List Int) : Prop :=
  ∃ (C : Nat) (done : List Int), done.length = k0 ∧ OwnI E w lo (some ⟨g, 0, none⟩) (k0 + n) C (done ++ xs) ∧ k0 + c ≤ C ∧ n ≤ c
theorem QAt.len (h : QAt E w lo g k0 n c xs) : xs.length = n := by
  obtain ⟨C, done, h1, h2, _⟩ := h
  have := h2.len; rw [List.length_append] at this; omega
theorem QAt.le (h : QAt E w lo g k0 n c xs) : n ≤ c ∧ c ≤ 9223372036854775807 := by
  obtain ⟨C, done, h1, h2, h3, h4⟩ := h
  obtain ⟨_, _, _, _, h5, _⟩ := ownI_block h2
  unfold maxLen at h5; exact ⟨h4, by omega⟩
theorem QAt.lt (h : QAt E w lo g k0 n c xs) : lo ≤ g ∧ g < w.heap.size := by
  obtain ⟨C, done, h1, h2, _⟩ := h
  obtain ⟨cur, hg, hb, _⟩ := ownI_block h2
  exact ⟨hb, (Array.getElem?_eq_some_iff.1 hg).1⟩
theorem QAt.cell (h : QAt E w lo g k0 n c xs) {j : Nat} {x : Int} (hx : xs[j]? = some x) : w.cell? ⟨g, k0 + j, none⟩ = some (.int .i64 x) := by
  obtain ⟨C, done, h1, h2, _⟩ := h
  exact h2.cell (by rw [List.getElem?_append_right (by omega), h1, show k0 + j - k0 = j by omega, hx])
theorem QAt.other {row : Option Nat} (h : QAt E w lo g k0 n c xs) (hg : w.grownBy w' row) (hne : some g ≠ row) : QAt E w' lo g k0 n c xs := by
  obtain ⟨C, done, h1, h2, h3, h4⟩ := h
  exact ⟨C, done, h1, h2.other hg (fun a ha => by injection ha with ha; rw [← ha]; exact hne), h3, h4⟩
theorem QAt.keep (h : QAt E w lo g k0 n c xs) (hb : Below w.heap.size w w') : QAt E w' lo g k0 n c xs := by
  obtain ⟨C, done, h1, h2, h3, h4⟩ := h
  exact ⟨C, done, h1, h2.keep hb, h3, h4⟩
theorem QAt.start {C : Nat} (h : OwnI E w lo (some ⟨g, 0, none⟩) n C xs) : QAt E w lo g 0 n C xs :=
  ⟨C, [], rfl, by simpa using h, by omega, by obtain ⟨_, _, _, h5, _⟩ := ownI_block h; exact h5⟩
theorem QAt.pop_last {x : Int} (h : QAt E w lo g k0 1 1 [x]) : QAt E w lo g k0 0 0 [] := by
  obtain ⟨C, done, h1, h2, h3, h4⟩ := h
  refine ⟨C, done, h1, ?_, by omega, Nat.le_refl _⟩
  have := h2.cut (M := k0) (by omega)
  rw [List.take_append_of_le_length (by omega), List.take_of_length_le (by omega)] at this
  simpa using this
theorem QAt.pop {x : Int} {t : List Int} (h : QAt E w lo g k0 (n + 1) (c + 1) (x :: t)) : QAt E w lo g (k0 + 1) n c t := by
  obtain ⟨C, done, h1, h2, h3, h4⟩ := h
  refine ⟨C, done ++ [x], by simp [h1], ?_, by omega, by omega⟩
  rw [List.append_assoc, List.singleton_append, show k0 + 1 + n = k0 + (n + 1) by omega]
  exact h2

theorem wpList_appQ {P : Program} {ops : Array Oper} {rest : List Oper} {o : Oper} {a : Act} {Q : Exit → Act → World → Prop} (hgd : o.guard = none) (s x : Operand) (T : TypeId)
    (ho : o.op = .call { callee := .builtin .append, args := #[s, x], argTypes := #[T, T] }) (i0 : TypeInfo)
    (hT : P.underlying T = some (.slice E)) (hi : P.info? E = some i0) (hz0 : i0.zero = some (.int .i64 0)) (hz1 : i0.size = 1) (hz2 : i0.bytes = 8)
    (q : Int) (hs : a.eval s = .slice (some ⟨g, k0, none⟩) n c) (hq : QAt E w lo g k0 n c xs) (hx : a.eval x = .slice (some ⟨w.heap.size, 0, none⟩) 1 1) (hn : n ≤ 1000) (hlo : lo ≤ w.heap.size)
    (h : ∀ g' k0' c' w', QAt E w' lo g' k0' (n + 1) c' (xs ++ [q]) → w.grownBy w' (some g) → (g' = g ∨ w.heap.size ≤ g') → wpList P ops Q rest (a.put o.dst (.slice (some ⟨g', k0', none⟩) (n + 1) c')) w') :
    wpList P ops Q (o :: rest) a (w.alloc (.cells #[.int .i64 q] E)) := by
  have hgl := hq.lt
  have hxl := hq.len
  have hle := hq.le
  obtain ⟨C, done, hd, hown, hC, hnc⟩ := hq
  have hnews : ∀ j u, [Value.int .i64 q][j]? = some u → (w.alloc (.cells #[.int .i64 q] E)).cell? ((⟨w.heap.size, 0, none⟩ : Addr).add j) = some u := by
    intro j u hj
    match j, hj with
    | 0, hj =>
      simp at hj; subst hj
      exact cell_of_row (w.alloc (.cells #[.int .i64 q] E)) w.heap.size 0 #[.int .i64 q] E (0, 0) (heap_alloc_new w _)
  have hone : ∀ u ∈ [Value.int .i64 q], u.oneCell' = true := by intro u hu; simp at hu; subst hu; rfl
  have hw : Region.wanted o (yielded ops a.tmps) = true := by simp [Region.wanted, hgd]
  have hal : Below w.heap.size w (w.alloc (.cells #[.int .i64 q] E)) := (Below.refl _ _).alloc (Nat.le_refl _) _
  have hown1 := hown.keep hal
  refine wpList_plain hgd fun K hK => ?_
  by_cases hr : n < c
  · have hstep := step_append_room (P := P) (ops := ops) (K := K) (Q := Q) (E := True) hgd s x T ho E i0 1 hT hi hz1 g k0 n c hs ⟨w.heap.size, 0, none⟩ 1 1 [.int .i64 q] hx rfl hnews hone (by omega) (w := w.alloc (.cells #[.int .i64 q] E))
      (fun j hj => by
        obtain rfl : j = 0 := by simpa using hj
        obtain ⟨cur, hg, _, _, _, hcs, _⟩ := ownI_block hown1
        refine ⟨?_, frozen_of_row _ g _ cur E hg⟩
        rw [cell_of_row _ g _ cur E (0, 0) hg, Array.getElem?_eq_getElem (by omega)]; rfl)
      (by
        obtain ⟨e1, e2⟩ := hown1.extend (by omega) q
        rw [show k0 + n * 1 = k0 + n by omega]
        refine hK _ _ (h g k0 c _ ⟨C, done, hd, ?_, hC, by omega⟩ (grown_next (grown_of_below hal _) e2) (.inl rfl))
        rw [← List.append_assoc, show k0 + (n + 1) = k0 + n + 1 by omega]
        exact e1)
    rwa [if_pos hw] at hstep
  · have hstep := step_append_grows (P := P) (ops := ops) (K := K) (Q := Q) (E := True) hgd s x T ho E i0 (.int .i64 0) 1 8 hT hi hz0 hz1 hz2 rfl (by decide) (some ⟨g, k0, none⟩) n c (xs.map (Value.int .i64)) hs (fun h => by cases h) (by simp [hxl])
      (fun b hb j u hj => by
        injection hb with hb; subst hb
        rw [List.getElem?_map] at hj
        have e : (⟨g, k0, none⟩ : Addr).add j = ⟨g, k0 + j, none⟩ := by unfold Addr.add; split <;> simp_all
        rw [e]
        cases hxj : xs[j]? with
        | none => rw [hxj] at hj; cases hj
        | some y =>
          rw [hxj] at hj
          injection hj with hj; subst hj
          exact hown1.cell (by rw [List.getElem?_append_right (by omega), hd, show k0 + j - k0 = j by omega, hxj]))
      ⟨w.heap.size, 0, none⟩ 1 1 [.int .i64 q] hx rfl hnews hone (by omega) (by unfold maxLen; omega) (by omega) (w := w.alloc (.cells #[.int .i64 q] E))
      (fun v' w' hown' hgr => by
        have e : xs.map (Value.int .i64) ++ [.int .i64 q] = (xs ++ [q]).map (Value.int .i64) := by simp
        rw [e] at hown'
        obtain ⟨A', c', rfl, hO⟩ := own_form hown'
        obtain ⟨g', rfl, h1, h2⟩ := hO.some_ (k := 0) (by omega)
        simp at h1
        refine hK _ _ (h g' 0 c' w' (QAt.start (hO.lower (by simp; omega))) ?_ (.inr (by omega)))
        exact ⟨hgr.os.trans hal.os, hgr.tape.trans hal.tape, hgr.output.trans hal.output, Nat.le_trans hal.size hgr.size, fun i hi _ => (hgr.block i (Nat.lt_of_lt_of_le hi hal.size) (by simp)).trans (hal.block i hi)⟩)
    rwa [if_pos hw] at hstep
end

end Go.Proofs.YtomfgjbicpeggaaGreatDoor

namespace Go.Proofs.YtomfgjbicpeggaaGreatDoor

def visit (d : Int) : List Int → List Int × List Int → List Int × List Int
  | [], s => s
  | x :: t, (far, q) => if far.getD x.toNat 0 < 0 then visit d t (far.set x.toNat (d + 1), q ++ [x]) else visit d t (far, q)
def bfsStep (adj : Int → List Int) (s : List Int × List Int) (k : Nat) : List Int × List Int :=
  match s.2[k]? with
  | none => s
  | some c => visit (s.1.getD c.toNat 0) (adj c) s
def bfsTo (adj : Int → List Int) (N : Nat) (start : Int) : Nat → List Int × List Int
  | 0 => ((List.replicate N (-1)).set start.toNat 0, [start])
  | k + 1 => bfsStep adj (bfsTo adj N start k) k
theorem visit_len (d : Int) : ∀ (l : List Int) (s : List Int × List Int), (visit d l s).1.length = s.1.length
  | [], _ => rfl
  | x :: t, (far, q) => by
    rw [visit]
    split
    · rw [visit_len d t]; simp
    · rw [visit_len d t]
/-- What holds of far and queue. -/
structure BfsOk (N : Nat) (B : Int) (far q : List Int) : Prop where
  len : far.length = N
  range : ∀ x ∈ q, 0 ≤ x ∧ x < N
  lo : ∀ (i : Nat) (v : Int), far[i]? = some v → -1 ≤ v ∧ v ≤ B
  seen : ∀ x ∈ q, 0 ≤ far.getD x.toNat 0
  nodup : q.Nodup
theorem getD_set_same {far : List Int} {i : Nat} {v : Int} (h : i < far.length) : (far.set i v).getD i 0 = v := by
  simp [List.getD_eq_getElem?_getD, h]
theorem getD_set_ne {far : List Int} {i j : Nat} {v : Int} (h : i ≠ j) : (far.set i v).getD j 0 = far.getD j 0 := by
  simp [List.getD_eq_getElem?_getD, h]
theorem BfsOk.push {N : Nat} {B d x : Int} {far q : List Int} (h : BfsOk N B far q) (hx : 0 ≤ x ∧ x < N) (hd : 0 ≤ d + 1 ∧ d + 1 ≤ B) (hf : far.getD x.toNat 0 < 0) : BfsOk N B (far.set x.toNat (d + 1)) (q ++ [x]) where
  len := by simp [h.len]
  range := fun y hy => by
    rcases List.mem_append.1 hy with hy | hy
    · exact h.range y hy
    · simp at hy; subst hy; exact hx
  lo := fun i v hv => by
    rw [List.getElem?_set] at hv
    split at hv
    · split at hv
      · injection hv with hv; omega
      · cases hv
    · exact h.lo i v hv
  seen := fun y hy => by
    by_cases e : x.toNat = y.toNat
    · rw [← e, getD_set_same (by rw [h.len]; omega)]; exact hd.1
    · rw [getD_set_ne e]
      rcases List.mem_append.1 hy with hy | hy
      · exact h.seen y hy
      · simp at hy; subst hy; exact absurd rfl e
  nodup := by
    rw [List.nodup_append]
    refine ⟨h.nodup, by simp, fun y hy z hz e => ?_⟩
    simp at hz; subst hz; subst e
    have := h.seen _ hy; omega
theorem BfsOk.mono {N : Nat} {B B' : Int} {far q : List Int} (h : BfsOk N B far q) (hB : B ≤ B') : BfsOk N B' far q :=
  ⟨h.len, h.range, fun i v hv => by have := h.lo i v hv; omega, h.seen, h.nodup⟩
theorem visit_ok {N : Nat} {B d : Int} (hd : 0 ≤ d + 1 ∧ d + 1 ≤ B) : ∀ (l far q : List Int), (∀ x ∈ l, 0 ≤ x ∧ x < N) → BfsOk N B far q → BfsOk N B (visit d l (far, q)).1 (visit d l (far, q)).2
  | [], far, q, _, h => h
  | x :: t, far, q, hl, h => by
    rw [visit]
    split
    · rename_i hf
      exact visit_ok hd t _ _ (fun y hy => hl y (List.mem_cons_of_mem _ hy)) (h.push (hl x List.mem_cons_self) hd hf)
    · exact visit_ok hd t _ _ (fun y hy => hl y (List.mem_cons_of_mem _ hy)) h
theorem bfs_ok {adj : Int → List Int} {N : Nat} {start : Int} (hs : 0 ≤ start ∧ start < N) (ha : ∀ c : Int, 0 ≤ c ∧ c < N → ∀ x ∈ adj c, 0 ≤ x ∧ x < N) : ∀ k : Nat, BfsOk N k (bfsTo adj N start k).1 (bfsTo adj N start k).2
  | 0 => {
      len := by simp [bfsTo]
      range := fun x hx => by simp [bfsTo] at hx; subst hx; exact hs
      lo := fun i v hv => by
        simp only [bfsTo, List.getElem?_set, List.length_replicate] at hv
        split at hv
        · split at hv
          · injection hv with hv; omega
          · cases hv
        · rw [List.getElem?_replicate] at hv
          split at hv
          · injection hv with hv; omega
          · cases hv
      seen := fun x hx => by
        simp [bfsTo] at hx; subst hx
        rw [bfsTo, getD_set_same (by simp; omega)]; omega
      nodup := by simp [bfsTo] }
  | k + 1 => by
    have h := bfs_ok hs ha k
    rw [bfsTo, bfsStep]
    split
    · exact h.mono (by omega)
    · rename_i c hc
      have hm := List.mem_of_getElem? hc
      have hr := h.range c hm
      have h0 := h.seen c hm
      have hlt : c.toNat < (bfsTo adj N start k).1.length := by rw [h.len]; omega
      have h1 := h.lo c.toNat ((bfsTo adj N start k).1.getD c.toNat 0) (by rw [List.getD_eq_getElem?_getD, List.getElem?_eq_getElem hlt]; rfl)
      exact visit_ok ⟨by omega, by omega⟩ _ _ _ (ha c hr) (h.mono (by omega))
theorem nodup_sub : ∀ (l m : List Nat), l.Nodup → (∀ x ∈ l, x ∈ m) → l.length ≤ m.length
  | [], _, _, _ => by simp
  | x :: l, m, hn, h => by
    rw [List.nodup_cons] at hn
    have hx := h x List.mem_cons_self
    have := nodup_sub l (m.erase x) hn.2 (fun y hy => (List.mem_erase_of_ne (fun e => hn.1 (by rw [← e]; exact hy))).2 (h y (List.mem_cons_of_mem _ hy)))
    rw [List.length_erase_of_mem hx] at this
    have := List.length_pos_of_mem hx
    simp only [List.length_cons]; omega
theorem nodup_len {N : Nat} {q : List Int} (hn : q.Nodup) (hr : ∀ x ∈ q, 0 ≤ x ∧ x < N) : q.length ≤ N := by
  have h : (q.map Int.toNat).Nodup := by
    rw [List.Nodup, List.pairwise_map]
    exact hn.imp_of_mem fun {a b} ha hb hne => by have := hr a ha; have := hr b hb; omega
  have h2 : ∀ x ∈ q.map Int.toNat, x ∈ List.range N := fun x hx => by
    obtain ⟨y, hy, rfl⟩ := List.mem_map.1 hx
    have := hr y hy; simp; omega
  have := nodup_sub _ _ h h2
  simpa using this
theorem bfs_q_len {adj : Int → List Int} {N : Nat} {start : Int} (hs : 0 ≤ start ∧ start < N) (ha : ∀ c : Int, 0 ≤ c ∧ c < N → ∀ x ∈ adj c, 0 ≤ x ∧ x < N) (k : Nat) : (bfsTo adj N start k).2.length ≤ N :=
  nodup_len (bfs_ok hs ha k).nodup (bfs_ok hs ha k).range
/-- Behind the queue's end nothing turns. -/
theorem bfs_stays {adj : Int → List Int} {N : Nat} {start : Int} {k : Nat} (h : (bfsTo adj N start k).2.length ≤ k) : ∀ j, k ≤ j → bfsTo adj N start j = bfsTo adj N start k := by
  intro j hj
  induction j with
  | zero => obtain rfl : k = 0 := by omega
            rfl
  | succ j ih =>
    by_cases e : k = j + 1
    · rw [e]
    · have ih := ih (by omega)
      rw [bfsTo, ih, bfsStep, List.getElem?_eq_none (by omega)]
def farL (adj : Int → List Int) (N : Nat) (start : Int) : List Int := (bfsTo adj N start N).1
theorem far_of_end {adj : Int → List Int} {N : Nat} {start : Int} (hs : 0 ≤ start ∧ start < N) (ha : ∀ c : Int, 0 ≤ c ∧ c < N → ∀ x ∈ adj c, 0 ≤ x ∧ x < N) {k : Nat} (h : (bfsTo adj N start k).2.length ≤ k) : (bfsTo adj N start k).1 = farL adj N start := by
  rcases Nat.le_total k N with hk | hk
  · rw [farL, bfs_stays h N hk]
  · rw [farL, bfs_stays (bfs_q_len hs ha N) k hk]
/-! ### On more places -/
theorem visit_pad (d : Int) (M : Nat) : ∀ (l far q : List Int), (∀ x ∈ l, 0 ≤ x ∧ x < (far.length : Int)) → visit d l (far ++ List.replicate M (-1), q) = ((visit d l (far, q)).1 ++ List.replicate M (-1), (visit d l (far, q)).2)
  | [], _, _, _ => rfl
  | x :: t, far, q, h => by
    have hx := h x List.mem_cons_self
    have e : (far ++ List.replicate M (-1)).getD x.toNat 0 = far.getD x.toNat 0 := by
      rw [List.getD_eq_getElem?_getD, List.getD_eq_getElem?_getD, List.getElem?_append_left (by omega)]
    have ht := fun y hy => h y (List.mem_cons_of_mem x hy)
    rw [visit, visit, e]
    split
    · rw [List.set_append_left _ _ (by omega), visit_pad d M t _ _ (by simpa using ht)]
    · rw [visit_pad d M t _ _ ht]
theorem bfs_pad {adj : Int → List Int} {N M : Nat} {start : Int} (hs : 0 ≤ start ∧ start < N) (ha : ∀ c : Int, 0 ≤ c ∧ c < N → ∀ x ∈ adj c, 0 ≤ x ∧ x < N) : ∀ k : Nat, bfsTo adj (N + M) start k = ((bfsTo adj N start k).1 ++ List.replicate M (-1), (bfsTo adj N start k).2)
  | 0 => by
    simp only [bfsTo]
    rw [← List.replicate_append_replicate, List.set_append_left _ _ (by simp; omega)]
  | k + 1 => by
    have h := bfs_ok hs ha k
    rw [bfsTo, bfsTo, bfs_pad hs ha k, bfsStep, bfsStep]
    split
    · rename_i e; simp only at e; simp [e]
    · rename_i c e
      simp only at e
      simp only [e]
      have hr := h.range c (List.mem_of_getElem? e)
      rw [List.getD_eq_getElem?_getD, List.getElem?_append_left (by rw [h.len]; omega), ← List.getD_eq_getElem?_getD]
      exact visit_pad _ M _ _ _ (by rw [h.len]; exact ha c hr)
theorem far_pad {adj : Int → List Int} {N M : Nat} {start : Int} (hs : 0 ≤ start ∧ start < N) (ha : ∀ c : Int, 0 ≤ c ∧ c < N → ∀ x ∈ adj c, 0 ≤ x ∧ x < N) : farL adj (N + M) start = farL adj N start ++ List.replicate M (-1) := by
  rw [farL, bfs_pad hs ha, bfs_stays (bfs_q_len hs ha N) (N + M) (by omega)]; rfl

end Go.Proofs.YtomfgjbicpeggaaGreatDoor

namespace Go.Proofs.YtomfgjbicpeggaaGreatDoor

theorem visit_append (d : Int) : ∀ (l m : List Int) (s : List Int × List Int), visit d (l ++ m) s = visit d m (visit d l s)
  | [], _, _ => rfl
  | x :: t, m, (far, q) => by
    rw [List.cons_append, visit, visit]
    split <;> exact visit_append d t m _
theorem visit_one {d x : Int} {far q : List Int} : visit d [x] (far, q) = if far.getD x.toNat 0 < 0 then (far.set x.toNat (d + 1), q ++ [x]) else (far, q) := by
  rw [visit]; split <;> rfl
theorem visit_keeps {d : Int} {i : Nat} : ∀ (l : List Int) (far q : List Int), 0 ≤ far.getD i 0 → (visit d l (far, q)).1.getD i 0 = far.getD i 0
  | [], _, _, _ => rfl
  | x :: t, far, q, h => by
    rw [visit]
    split
    · rename_i hx
      have hne : x.toNat ≠ i := fun e => by rw [e] at hx; omega
      rw [visit_keeps t _ _ (by rw [getD_set_ne hne]; exact h), getD_set_ne hne]
    · exact visit_keeps t _ _ h
theorem visit_len_le {d : Int} : ∀ (l : List Int) (far q : List Int), q.length ≤ (visit d l (far, q)).2.length
  | [], _, _ => Nat.le_refl _
  | x :: t, far, q => by
    rw [visit]
    split
    · exact Nat.le_trans (by simp) (visit_len_le t _ _)
    · exact visit_len_le t _ _
theorem bfs_next {adj : Int → List Int} {N k : Nat} {start c : Int} (h : (bfsTo adj N start k).2[k]? = some c) : bfsTo adj N start (k + 1) = visit ((bfsTo adj N start k).1.getD c.toNat 0) (adj c) (bfsTo adj N start k) := by
  rw [bfsTo, bfsStep, h]
theorem BfsOk.at_ {N : Nat} {B : Int} {far q : List Int} (h : BfsOk N B far q) {i : Nat} (hi : i < N) : ∃ v, far[i]? = some v ∧ far.getD i 0 = v ∧ -1 ≤ v ∧ v ≤ B := by
  have hl : i < far.length := by rw [h.len]; exact hi
  refine ⟨far[i], List.getElem?_eq_getElem hl, by rw [List.getD_eq_getElem?_getD, List.getElem?_eq_getElem hl]; rfl, ?_⟩
  exact h.lo i _ (List.getElem?_eq_getElem hl)
theorem minus_set {k : Nat} (h : k < 64) : (List.replicate k (-1 : Int) ++ List.replicate (64 - k) 0).set k (-1) = List.replicate (k + 1) (-1) ++ List.replicate (64 - (k + 1)) 0 := by
  rw [List.set_append_right _ _ (by simp), List.length_replicate, Nat.sub_self]
  obtain ⟨m, hm⟩ : ∃ m, 64 - k = m + 1 := ⟨64 - k - 1, by omega⟩
  rw [hm, List.replicate_succ, List.set_cons_zero, show 64 - (k + 1) = m by omega, show k + 1 = k + 1 from rfl, List.replicate_succ', List.append_assoc]
  rfl

theorem visit_cells {cells : List Int} {d : Int} : ∀ (l far q : List Int), (∀ x ∈ l, x ∈ cells) → (∀ x ∈ q, x ∈ cells) → ∀ x ∈ (visit d l (far, q)).2, x ∈ cells
  | [], _, _, _, h => h
  | y :: t, far, q, hl, h => by
    rw [visit]
    split
    · exact visit_cells t _ _ (fun z hz => hl z (List.mem_cons_of_mem _ hz)) (fun z hz => by
        rcases List.mem_append.1 hz with hz | hz
        · exact h z hz
        · simp at hz; subst hz; exact hl _ List.mem_cons_self)
    · exact visit_cells t _ _ (fun z hz => hl z (List.mem_cons_of_mem _ hz)) h
theorem bfs_cells {cells : List Int} {adj : Int → List Int} {N : Nat} {start : Int} (hs : start ∈ cells) (ha : ∀ x, ∀ y ∈ adj x, y ∈ cells) : ∀ k : Nat, ∀ x ∈ (bfsTo adj N start k).2, x ∈ cells
  | 0, x, hx => by simp [bfsTo] at hx; subst hx; exact hs
  | k + 1, x, hx => by
    rw [bfsTo, bfsStep] at hx
    split at hx
    · exact bfs_cells hs ha k x hx
    · exact visit_cells _ _ _ (ha _) (bfs_cells hs ha k) x hx

end Go.Proofs.YtomfgjbicpeggaaGreatDoor
