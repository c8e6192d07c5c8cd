/-
  From a law's contract to its statement: how the arguments are opened, and what the statement's end asks.
-/
import Derived.Test.YtnmmgalidkambaaGreatDoorRows
import Derived.Test.YtnmmgalidkambaaGreatDoorHelp
import Derived.ProofKit
import Derived.Lib.SmallJoins
namespace Go.Proofs.YtnmmgalidkambaaGreatDoor
open Go.ChangeShapes Go.WideShapes Go.ChangeAt Go.RowKit Go.Joins
set_option linter.unusedVariables false

theorem own : ownKnob Tryz.prog.godebug = none := by kernel_rfl
theorem laidOut : laidOutB Tryz.prog = true := by kernel_rfl
theorem rkI : Tryz.prog.cellsOf 3 = 1 := by kernel_rfl
theorem rkL : Tryz.prog.cellsOf 26 = 2 := by kernel_rfl
theorem rkB : Tryz.prog.cellsOf 24 = 3 := by kernel_rfl

theorem okT_I : Tryz.prog.readableRec 3 = true ∧ 3 < Tryz.prog.types.size := ⟨by kernel_rfl, of_decide_eq_true (by kernel_rfl)⟩
theorem okT_L : Tryz.prog.readableRec 26 = true ∧ 26 < Tryz.prog.types.size := ⟨by kernel_rfl, of_decide_eq_true (by kernel_rfl)⟩
theorem okT_B : Tryz.prog.readableRec 24 = true ∧ 24 < Tryz.prog.types.size := ⟨by kernel_rfl, of_decide_eq_true (by kernel_rfl)⟩
theorem okT_P : Tryz.prog.readableRec 22 = true ∧ 22 < Tryz.prog.types.size := ⟨by kernel_rfl, of_decide_eq_true (by kernel_rfl)⟩
theorem okT_S : Tryz.prog.readableRec 9 = true ∧ 9 < Tryz.prog.types.size := ⟨by kernel_rfl, of_decide_eq_true (by kernel_rfl)⟩

/-! ### The closed facts of the program, once for all laws -/
theorem pf_laid : laidOutB Tryz.pinned.checked.prog = true := laidOut
theorem pf_maps : mapsRowed Tryz.pinned.checked.prog = true := by kernel_rfl
theorem pf_stops : (Tryz.pinned.checked.prog.stops == []) = true := by kernel_rfl
theorem pf_knobs : (Tryz.pinned.checked.prog.stopKnobs == []) = true := by kernel_rfl
theorem pf_heard : Tryz.pinned.checked.prog.stopsHeard = true := by kernel_rfl
theorem pf_plain : (false == Tryz.pinned.checked.prog.plainKeys) = true := by kernel_rfl
theorem pf_later : Tryz.pinned.checked.prog.laysLater = false := by kernel_rfl
theorem pf_reflect : Tryz.pinned.checked.prog.bearsReflect = false := by kernel_rfl
theorem pf_door : Tryz.pinned.checked.prog.doorFits [] = true := by kernel_rfl
/-- The signs of the dump's head, as numbers: so the kernel reads it once, and quickly. -/
def headNats : List Nat := [104, 97, 114, 110, 101, 115, 115, 32, 97, 51, 57, 102, 98, 101, 48, 50, 97, 54, 100, 102, 50, 52, 56, 101, 56, 102, 97, 56, 49, 49, 55, 53, 49, 100, 55, 55, 102,
  99, 49, 56, 57, 99, 102, 52, 51, 54, 51, 48, 50, 51, 55, 98, 101, 100, 98, 99, 100, 51, 53, 52, 54, 48, 50, 55, 49, 102, 57, 48, 98, 54, 97, 49, 32, 99, 117,
  116, 32, 97, 116, 32, 108, 111, 111, 112, 46, 101, 120, 97, 109, 112, 108, 101, 47, 103, 48, 49, 50, 51, 57, 47, 108, 97, 119, 115, 46, 70, 110, 69, 120, 97, 99,
  116, 70, 105, 114, 115, 116, 84, 111, 117, 114, 32, 108, 111, 111, 112, 46, 101, 120, 97, 109, 112, 108, 101, 47, 103, 48, 49, 50, 51, 57, 47, 108, 97, 119, 115,
  46, 70, 110, 69, 120, 97, 99, 116, 70, 105, 114, 115, 116, 84, 111, 117, 114, 70, 114, 111, 109, 32, 108, 111, 111, 112, 46, 101, 120, 97, 109, 112, 108, 101,
  47, 103, 48, 49, 50, 51, 57, 47, 108, 97, 119, 115, 46, 70, 110, 69, 120, 97, 99, 116, 67, 111, 117, 110, 116, 84, 111, 117, 114, 115, 70, 114, 111, 109, 32,
  108, 111, 111, 112, 46, 101, 120, 97, 109, 112, 108, 101, 47, 103, 48, 49, 50, 51, 57, 47, 108, 97, 119, 115, 46, 70, 110, 69, 120, 97, 99, 116, 67, 111, 117,
  110, 116, 84, 111, 117, 114, 115, 32, 108, 111, 111, 112, 46, 101, 120, 97, 109, 112, 108, 101, 47, 103, 48, 49, 50, 51, 57, 47, 108, 97, 119, 115, 46, 70, 110,
  69, 120, 97, 99, 116, 70, 105, 114, 115, 116, 67, 108, 111, 115, 101, 100, 84, 111, 117, 114, 32, 108, 111, 111, 112, 46, 101, 120, 97, 109, 112, 108, 101, 47,
  103, 48, 49, 50, 51, 57, 47, 108, 97, 119, 115, 46, 70, 110, 69, 120, 97, 99, 116, 67, 111, 117, 110, 116, 67, 108, 111, 115, 101, 100, 84, 111, 117, 114, 115,
  32, 108, 111, 111, 112, 46, 101, 120, 97, 109, 112, 108, 101, 47, 103, 48, 49, 50, 51, 57, 47, 108, 97, 119, 115, 46, 70, 110, 69, 120, 97, 99, 116, 76, 111,
  110, 103, 101, 115, 116, 87, 97, 108, 107]
set_option maxRecDepth 100000 in
theorem head_eq : Tryz.pinned.checked.prog.initOrder = String.ofList (headNats.map Char.ofNat) := by kernel_rfl
theorem head_list : Tryz.pinned.checked.prog.initOrder.toList = headNats.map Char.ofNat := by rw [head_eq, String.toList_ofList]
theorem pf_head : (behindMainWord (wordsSigns (headNats.map Char.ofNat))).head? = some "cut".toList := by kernel_rfl
theorem strip_cut (rest : List (List Char)) : stripLifts liftWords ("cut".toList :: rest) = ([], "cut".toList :: rest) := by kernel_rfl
/-- A head that opens with the one word, over whatever program. -/
theorem enter_of {P : Program} {L : List Char} {rest : List (List Char)} (h1 : P.initOrder.toList = L) (h2 : behindMainWord (wordsSigns L) = "cut".toList :: rest)
    (ha : P.laysLater = false) (hb : P.bearsReflect = false) (hc : P.doorFits [] = true) : P.mayEnter = true := by
  unfold Program.mayEnter
  rw [h1, h2]
  simp only [strip_cut, ha, hb, hc]
  simp
theorem final_of {P : Program} {L : List Char} {rest : List (List Char)} (h1 : P.initOrder.toList = L) (h2 : behindMainWord (wordsSigns L) = "cut".toList :: rest) : P.liftsFinal = false := by
  unfold Program.liftsFinal Program.headLifts
  rw [h1, h2]
  simp only [strip_cut]
  simp
theorem make_of {P : Program} {L : List Char} {rest : List (List Char)} (h1 : P.initOrder.toList = L) (h2 : behindMainWord (wordsSigns L) = "cut".toList :: rest) : P.make = some .cut := by
  unfold Program.make
  rw [h1, h2]
  simp
theorem pf_make : Tryz.pinned.checked.prog.make = some .cut := by
  obtain ⟨rest, hr⟩ := List.head?_eq_some_iff.1 pf_head
  exact make_of head_list hr
theorem pf_enter : Tryz.pinned.checked.prog.mayEnter = true := by
  obtain ⟨rest, hr⟩ := List.head?_eq_some_iff.1 pf_head
  exact enter_of head_list hr pf_later pf_reflect pf_door
theorem pf_final : Tryz.pinned.checked.prog.liftsFinal = false := by
  obtain ⟨rest, hr⟩ := List.head?_eq_some_iff.1 pf_head
  exact final_of head_list hr

/-- The closed facts of a law, one by one. -/
theorem joined_of {P : Program} {f : FuncId} {fn : Func} {s : ChangeSpec} {c : OpenClaim}
    (a1 : c.wf (OpenSpec.ofChange s) = true) (a2 : laidOutB P = true) (a3 : mapsRowed P = true) (a4 : fn.params.all (P.readableRec ·) = true) (a5 : namedTie P c.named s.vars = true)
    (a6 : (c.stops == []) = true) (a7 : (P.stops == []) = true) (a8 : (c.knobs == []) = true) (a9 : (P.stopKnobs == []) = true)
    (b1 : (c.inPlace == P.inPlace f) = true) (b2 : (c.unfollowed == P.unfollowed f) = true) (b3 : (c.recurses == P.recurses f) = true) (b4 : (c.named == P.varsNamed f) = true)
    (c1 : (c.maps == (fn.params.toList ++ s.plain.varTypes P).any (P.mapsRec ·)) = true) (c2 : (c.ifaces == (fn.params.toList ++ s.plain.varTypes P).any (P.ifacesRec ·)) = true) (c3 : (c.mapsOut == P.mapsAmong fn.resultTypes.toList) = true)
    (c4 : (c.loops == (fn.params.toList ++ s.plain.varTypes P).any (P.loopsFrom ·)) = true) (c5 : (c.wideKeys == (fn.params.toList ++ s.plain.varTypes P ++ fn.resultTypes.toList).any (P.wideKeysFrom ·)) = true)
    (c6 : s.vars.all (P.varReadable ·) = true) (c7 : fn.resultTypes.all (fun t => P.readableRec t && decide (t < P.types.size)) = true) (c8 : (c.ifacesOut == fn.resultTypes.toList.any (P.ifacesRec ·)) = true) (c9 : (c.loopsOut == fn.resultTypes.toList.any (P.loopsFrom ·)) = true)
    (d1 : (c.plainKeys == P.plainKeys) = true) (d2 : c.shortTexts.isNone = true) (d3 : P.stopsHeard = true) (d4 : P.mayEnter = true) (d5 : P.liftsFinal = false) (d6 : c.lifted = false) (d7 : P.make = some .cut) (d7' : c.make = .cut)
    (d8 : c.kinds = []) (d0 : c.domain = []) (d9 : (c.pinned == c.pinnedBy) = true)
    (e1 : (c.veiled == (fn.params.toList ++ s.plain.varTypes P ++ fn.resultTypes.toList).any (P.veiledRec ·)) = true) (e2 : c.veiledFits P fn.params.toList (fn.params.toList ++ s.plain.varTypes P ++ fn.resultTypes.toList) = true) :
    joinedFacts P f fn s c = true := by
  unfold joinedFacts
  rw [a1, a2, a3, a4, a5, a6, a7, a8, a9, b1, b2, b3, b4, c1, c2, c3, c4, c5, c6, c7, c8, c9, d1, d2, d3, d4, d5, d6, d7, d7', d8, d0, d9, e1, e2]
  rfl

section
variable {H : Type} {enc : TypeId × Value → H}

set_option maxRecDepth 100000 in
/-- All arguments read behind the call as they read before it, one after the other. -/
theorem trodAll_below {W W' : World} (hb : Below W.heap.size W W') : ∀ (ts : List TypeId) (vs : List Value) (ds : List (DataW H)) (ps : List MemPlace),
    (∀ t ∈ ts, Tryz.prog.readableRec t = true ∧ t < Tryz.prog.types.size) → (∀ x ∈ ps, x.block < W.heap.size) →
    DataW.TrodAll enc Tryz.prog W 0 (fun _ => true) true ts vs ds ps → DataW.TrodAll enc Tryz.prog W' 0 (fun b => decide (b < W.heap.size)) true ts vs ds ps
  | [], vs, ds, ps, _, _, h => by
    obtain ⟨rfl, rfl, rfl⟩ := trodAll_nil h
    exact trodAll_mk0
  | t :: ts, vs, ds, ps, ht, hp, h => by
    obtain ⟨v, vs', d, ds', p, q, rfl, rfl, rfl, h0, r0⟩ := trodAll_cons h
    have h1 := ht t (List.mem_cons_self)
    exact trodAll_cons_mk (Below.trod laidOut h1.1 h1.2 h0 hb (fun x hx => hp x (by simp [hx])))
      (trodAll_below hb ts vs' ds' q (fun t' h' => ht t' (List.mem_cons_of_mem _ h')) (fun x hx => hp x (by simp [hx])) r0)

set_option maxRecDepth 100000 in
/-- A slice of ints that came in reads as a list. -/
theorem open_trod_row {W : World} {base fuel : Nat} {v : Value} {y : DataW H × List MemPlace} (h : DataW.trod enc Tryz.prog W base (fun _ => true) true fuel 22 [v] = some y) (hlt : ∀ x ∈ y.2, x.block < W.heap.size) :
    ∃ A n c xs, v = .slice A n c ∧ Rd W A n xs := by
  rcases open_ints Tryz.underlying22 Tryz.underlying3 rkI h with ⟨hcs, hx⟩ | ⟨a, len, cap, zs, hcs, _, hl, hm, hz, hx, hcell, hwz⟩
  · injection hcs with hv _
    exact ⟨none, 0, 0, [], hv, Rd.nil _ _⟩
  · injection hcs with hv _
    have hz' : zs.length = cap := by simpa using hz
    refine ⟨some a, len, cap, zs.take len, hv, by rw [List.length_take]; omega, by unfold maxLen at hm; omega, fun k hk => ?_⟩
    have hck := hcell k (by omega)
    obtain ⟨b, off, spot⟩ := a
    have hspot : spot = none := by simpa [Addr.add] using World.cell?_spot (hcell 0 (by omega))
    subst hspot
    have hbW : b < W.heap.size := hlt (.cell b off) (by rw [hx]; exact MemPlace.mem_row.2 ⟨0, by omega, by simp⟩)
    refine ⟨b, off, zs.getD k 0, rfl, hbW, ?_, ?_⟩
    · rw [List.getElem?_take, if_pos hk, List.getD_eq_getElem?_getD, List.getElem?_eq_getElem (by omega)]; rfl
    · rw [← add_plain]; exact hck

set_option maxRecDepth 100000 in
theorem open_row {W : World} {base : Nat} {v : Value} {d : DataW H} {p : List MemPlace} {r : Reach} {b0 : Nat} (hv : Value.okWide Tryz.prog W r b0 22 v) (h : DataW.Trod enc Tryz.prog W base (fun _ => true) true 22 v d p) (hlt : ∀ x ∈ p, x.block < W.heap.size) :
    ∃ A n c xs, v = .slice A n c ∧ Rd W A n xs := by
  obtain ⟨a0, len, cap, hv'⟩ := okWide_slice Tryz.underlying22 hv
  obtain ⟨fuel, hf⟩ := h
  rw [hv'] at hf ⊢
  exact open_trod_row hf hlt

set_option maxRecDepth 100000 in
theorem open_leaper {W : World} {base : Nat} {v : Value} {d : DataW H} {p : List MemPlace} {r : Reach} {b0 : Nat} (hv : Value.okWide Tryz.prog W r b0 26 v) (h : DataW.Trod enc Tryz.prog W base (fun _ => true) true 26 v d p) :
    ∃ a b, v = lpr a b := by
  obtain ⟨c0, c1, y0, y1, m, hv', _, _, hy0, hy1⟩ := open_agg2 Tryz.underlying26 (by kernel_rfl) rkL hv h
  obtain ⟨a, e0, _, _⟩ := DataW.trod_int Tryz.underlying3 hy0
  obtain ⟨b, e1, _, _⟩ := DataW.trod_int Tryz.underlying3 hy1
  injection e0 with e0 _
  injection e1 with e1 _
  exact ⟨a, b, by rw [hv', e0, e1]⟩

set_option maxRecDepth 100000 in
theorem open_board {W : World} {base : Nat} {v : Value} {d : DataW H} {p : List MemPlace} {r : Reach} {b0 : Nat} (hv : Value.okWide Tryz.prog W r b0 24 v) (h : DataW.Trod enc Tryz.prog W base (fun _ => true) true 24 v d p) (hlt : ∀ x ∈ p, x.block < W.heap.size) :
    ∃ V G A n c xs, v = brd V G A n c ∧ Rd W A n xs := by
  obtain ⟨c0, c1, c2, y0, y1, y2, m, hv', _, hp, hy0, hy1, hy2⟩ := open_agg3 Tryz.underlying24 (by kernel_rfl) rkB hv h
  obtain ⟨a, e0, _, _⟩ := DataW.trod_int Tryz.underlying3 hy0
  obtain ⟨b, e1, _, _⟩ := DataW.trod_int Tryz.underlying3 hy1
  injection e0 with e0 _
  injection e1 with e1 _
  obtain ⟨A, n, c, xs, e2, hr⟩ := open_trod_row hy2 (fun x hx => hlt x (by rw [hp]; simp [hx]))
  exact ⟨a, b, A, n, c, xs, by rw [hv', e0, e1, e2], hr⟩

set_option maxRecDepth 100000 in
/-- The statement's end: the law has answered true, and nothing that was there has turned. -/
theorem law_post {f : Func} {s : ChangeSpec} {W W' : World} {args : Array Value} {ds : List (DataW H)} {before : List MemPlace} (hf : f.resultTypes = #[4])
    (hps : ∀ t ∈ f.params.toList, Tryz.prog.readableRec t = true ∧ t < Tryz.prog.types.size)
    (hW : DataW.Whole enc Tryz.prog f.params.toList s.vars false W args.toList ds [] before)
    (hA : DataW.TrodAll enc Tryz.prog W 0 (fun _ => true) true f.params.toList args.toList ds before)
    (hr : (s.fn H (ds ++ [])).results = [.lit (.bool true)]) (ha : (s.fn H (ds ++ [])).args = ds) (hv : (s.fn H (ds ++ [])).vars = []) (hsv : s.vars = [])
    (hb : Below W.heap.size W W') : s.post enc Tryz.prog f false true false false W args (.bool true) W' := by
  refine ⟨_, _, _, [], before, [], hW, ?_, ?_, ?_, hb.frame _, fun h => by cases h⟩
  · rw [hf, hr]; exact trodAll_mk1 (shut_bool Tryz.underlying4 _)
  · rw [ha]; exact trodAll_below hb _ _ _ _ hps (fun x hx => by simpa using hW.lt x hx) hA
  · rw [hv, hsv]; rfl

end
end Go.Proofs.YtnmmgalidkambaaGreatDoor
