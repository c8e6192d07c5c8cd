/-
  Contracts: the program's ForcedLeaps.
-/
import Derived.Test.YtihcbpbepedaiaaDoorE9
import Derived.Test.YtihcbpbepedaiaaDoorE10
import Derived.Test.YtihcbpbepedaiaaDoorS9
namespace Go.Proofs.YtihcbpbepedaiaaDoor
open Go.RowKit Go.Shelf
attribute [local go_sem] Oper.semAt_some

theorem undef_bool {b : Bool} {R : Prop} (h : some undef = some (Value.bool b)) : R := by simp [undef] at h
theorem wpIn_handsLB {P : Program} {n : Nat} {g : Operand} {p q : Tmp} {assign body : Code} {Q : Exit → Act → World → Prop} {a : Act} {w : World} {gf : Nat} {sv : Value}
    (hg : a.eval g = .func (.func gf) #[sv] #[]) (eg : ∀ args w, (callFunc gf args).run P w = .ok (.enter gf args) w)
    {xs : List Int} {T : World → Prop} (hit : Hands P (n - 1) gf sv xs T)
    (I : List Int → World → Prop) (hT : ∀ pre w, I pre w → T w) (hI : OwnFrom w.heap.size I) (h0 : I [] w)
    (hassign : ∀ (l : Nat) (pre : List Int) (x : Int) (W : World) (K : Act → World → Prop), I pre W → (∀ bx W', KeepsFrom w.heap.size W W' → I pre W' → w.heap.size ≤ bx → W'.heap[bx]? = some (.cells #[.int .i64 x] 3 (0, 0)) → K { tmps := (a.tmps.setIfInBounds p (.int .i64 x)).setIfInBounds q (.pointer (some ⟨bx, 0, none⟩)), defers := [] } W') →
      assign.wpIn (Fence.wide.inRound l) (n - 1 - 1) P (Exit.then K (fun _ _ _ => False)) { tmps := ((#[p] : Array Tmp).zip #[Value.int .i64 x]).foldl (fun t (p, v) => t.setIfInBounds p v) a.tmps, defers := [] } W)
    (hbody : ∀ (l : Nat) (pre : List Int) (x : Int) (rest : List Int) (bx : Nat) (W : World), w.heap.size ≤ l → (∃ r, W.heap[l]? = some (.loop r)) → xs = pre ++ x :: rest → I pre W → w.heap.size ≤ bx → W.heap[bx]? = some (.cells #[.int .i64 x] 3 (0, 0)) →
      body.wpIn (Fence.wide.inRound l) (n - 1 - 1) P (ownPostG w.heap.size (fun _ _ => True) I (fun _ _ _ => False) (pre ++ [x]) W) { tmps := (a.tmps.setIfInBounds p (.int .i64 x)).setIfInBounds q (.pointer (some ⟨bx, 0, none⟩)), defers := [] } W)
    (hdone : ∀ (D : Nat) (W : World), w.heap.size ≤ D → I xs W → W.heap[D]? = some (.deferred (some [])) → Q .normal { a with defers := { target := .collected D, args := #[] } :: a.defers } W) :
    (Code.rangeFunc g #[p] assign body).wpIn Fence.wide n P Q a w := by
  refine wpIn_handsL hg eg hit I hT hI h0 (fun x a' W => ∃ bx, a' = { tmps := (a.tmps.setIfInBounds p (.int .i64 x)).setIfInBounds q (.pointer (some ⟨bx, 0, none⟩)), defers := [] } ∧ w.heap.size ≤ bx ∧ W.heap[bx]? = some (.cells #[.int .i64 x] 3 (0, 0))) ?_
    (fun l pre x W K hi hK => hassign l pre x W K hi (fun bx W' h1 h2 h3 h4 => hK _ _ h1 h2 ⟨bx, rfl, h3, h4⟩)) ?_ hdone
  · rintro x a' _ W W' row ⟨bx, e, h1, h2⟩ hgr hr
    refine ⟨bx, e, h1, (hgr.block bx (Array.getElem?_eq_some_iff.1 h2).1 (fun e2 => ?_)).trans h2⟩
    obtain ⟨_, o, ho, hc⟩ := hr bx e2.symm
    rw [h2] at ho; cases ho; cases hc
  · rintro l pre x rest a' W h1 h2 h3 h4 ⟨bx, rfl, h5, h6⟩
    exact hbody l pre x rest bx W h1 h2 h3 h4 h5 h6
theorem wpIn_handsNQ {P : Program} {n : Nat} {g : Operand} {p q : Tmp} {assign body : Code} {Q : Exit → Act → World → Prop} {a : Act} {w : World} {gf : Nat} {sv : Value} {l₀ : Nat} {r₀ : Loop} (hl₀ : w.heap[l₀]? = some (.loop r₀))
    (hg : a.eval g = .func (.func gf) #[sv] #[]) (eg : ∀ args w, (callFunc gf args).run P w = .ok (.enter gf args) w)
    {xs : List Int} {T : World → Prop} (hit : Hands P (n - 1) gf sv xs T)
    (I : List Int → World → Prop) (hT : ∀ pre w, I pre w → T w) (hI : OwnFrom w.heap.size I) (h0 : I [] w)
    (hassign : ∀ (l : Nat) (x : Int) (W : World) (K : Act → World → Prop), K { tmps := (a.tmps.setIfInBounds p (.int .i64 x)).setIfInBounds q (.int .i64 x), defers := [] } W →
      assign.wpIn (Fence.wide.inRound l) (n - 1 - 1) P (Exit.then K (fun _ _ _ => False)) { tmps := ((#[p] : Array Tmp).zip #[Value.int .i64 x]).foldl (fun t (p, v) => t.setIfInBounds p v) a.tmps, defers := [] } W)
    (hbody : ∀ (l : Nat) (pre : List Int) (x : Int) (rest : List Int) (W : World), w.heap.size ≤ l → xs = pre ++ x :: rest → I pre W →
      body.wpIn (Fence.wide.inRound l) (n - 1 - 1) P (ownPostG w.heap.size (fun _ _ => True) I (fun _ _ _ => False) (pre ++ [x]) W) { tmps := (a.tmps.setIfInBounds p (.int .i64 x)).setIfInBounds q (.int .i64 x), defers := [] } W)
    (hdone : ∀ (W : World), I xs W → Q .normal a W) :
    (Code.rangeFunc g #[p] assign body).wpIn (Fence.wide.inRound l₀) n P Q a w :=
  wpIn_handsN hl₀ hg eg hit I hT hI h0 (fun x a' _ => a' = { tmps := (a.tmps.setIfInBounds p (.int .i64 x)).setIfInBounds q (.int .i64 x), defers := [] }) (fun _ _ _ _ _ _ h _ _ => h)
    (fun l _ x W K hi hK => hassign l x W K (hK _ _ (KeepsFrom.refl _ _) hi rfl)) (fun l pre x rest a' W h1 _ h3 h4 h5 => by subst h5; exact hbody l pre x rest W h1 h3 h4) hdone

/-- The answer's rows so far. -/
def RowsG (w Wb : World) (gb q : Nat) (C : Array Value) (ps : List (List Int)) (W' : World) : Prop :=
  Below w.heap.size w W' ∧ Wb.heap.size ≤ W'.heap.size ∧ W'.heap[gb]? = some (.cells C 55 (0, 0)) ∧
    ∃ top A n c, top ≤ W'.heap.size ∧ W'.heap[q]? = some (.cells #[.slice A n c] 39 (0, 0)) ∧ PartsAt W' Wb.heap.size top A n c ps
theorem rowsG_turn {w Wb W1 W2 : World} {gb q : Nat} {C : Array Value} {ps : List (List Int)} {row : Option Nat} (hg : gb < Wb.heap.size) (hq : q < Wb.heap.size) (hw : w.heap.size ≤ Wb.heap.size) (h : RowsG w Wb gb q C ps W1)
    (hgr : W1.grownBy W2 row) (hr : ∀ r, row = some r → Wb.heap.size ≤ r ∧ ∃ o : Obj, W1.heap[r]? = some o ∧ o.isCells = false) : RowsG w Wb gb q C ps W2 := by
  obtain ⟨hb, hs, hc, top, A, n, c, ht, hqq, ho⟩ := h
  have hne : ∀ k, k < Wb.heap.size → some k ≠ row := fun k hk e => by have := (hr k e.symm).1; omega
  have hcl : ∀ (k : Nat) cur E, W1.heap[k]? = some (.cells cur E (0, 0)) → some k ≠ row := fun k cur E hk e => by
    obtain ⟨_, o, h1, h2⟩ := hr k e.symm
    rw [hk] at h1; cases h1; cases h2
  refine ⟨hb.grown hgr (Nat.le_trans hw hs) (fun k e => Nat.le_trans hw (hr k e).1), Nat.le_trans hs hgr.size, (hgr.block gb (by omega) (hne _ hg)).trans hc, top, A, n, c, Nat.le_trans ht hgr.size, (hgr.block q (by omega) (hne _ hq)).trans hqq, ho.other hgr (fun ad e => ?_) (fun ad m k p hp => ?_)⟩
  · obtain ⟨vs, h1, _⟩ := ho
    subst e
    obtain ⟨cur, hcur⟩ := row_block h1.2
    exact hcl _ _ _ hcur
  · obtain ⟨cur, hcur⟩ := row_block hp
    exact hcl _ _ _ hcur
theorem wpListIn_load_w {F : Fence} {n : Nat} {P : Program} {ops : Array Oper} {rest : List Oper} {op : Oper} {a : Act} {w : World} {Q : Exit → Act → World → Prop} (ty : TypeId) (x : Operand) (p v : Value) (ho : op.op = .load ty x)
    (hx : a.eval x = p) (hw : Region.wanted op (yielded ops a.tmps) = true) (hr : (Instr.loadAt ty p).run P w = .ok v w) (h : wpListIn F n P ops Q rest (a.put op.dst v) w) : wpListIn F n P ops Q (op :: rest) a w :=
  wpListIn_step fun K hK => by rw [if_pos hw]; exact wpIn_load_run ty x p v ho hx hr (hK _ _ h)

theorem rowF_snoc (W H : Int) (xs : List Int) (a b c : Int) (ds : List Int) (d : Int) : rowF W H xs a b c (ds ++ [d]) = rowF W H xs a b c ds ++ (if pickB W H xs a b c d then [[c, d]] else []) := by
  rw [rowF, rowF, List.filter_append, List.map_append, List.filter_cons, List.filter_nil]
  cases pickB W H xs a b c d <;> rfl
theorem rowF_len (W H : Int) (xs : List Int) (a b c : Int) (ds : List Int) : (rowF W H xs a b c ds).length ≤ ds.length := by
  rw [rowF, List.length_map]; exact List.length_filter_le _ _
theorem forcedL_len (W H : Int) (xs : List Int) (a b : Int) (hN : 1 ≤ W * H ∧ W * H ≤ 64) : ∀ cs : List Int, (forcedL W H xs a b cs).length ≤ 64 * cs.length
  | [] => by simp [forcedL]
  | c :: t => by
    have ih := forcedL_len W H xs a b hN t
    have h1 := rowF_len W H xs a b c (leapsL W H xs a b c)
    have h2 := leapsL_len64 (W := W) (H := H) (xs := xs) (a := a) (b := b) (q := c) hN
    rw [forcedL, List.flatMap_cons, List.length_append, List.length_cons]
    rw [forcedL] at ih
    omega
/-- A row of two numbers in a new block. -/
theorem own_two (w : World) (lo : Nat) (x y : Int) (h : lo ≤ w.heap.size) : OwnI 3 (w.alloc (.cells #[.int .i64 x, .int .i64 y] 3)) lo (some ⟨w.heap.size, 0, none⟩) 2 2 [x, y] :=
  ⟨rfl, .inr ⟨w.heap.size, 2, #[.int .i64 x, .int .i64 y], rfl, h, World.alloc_heap_new _ _, Nat.le_refl _, by decide, rfl, rfl⟩⟩
theorem parts_keeps {w w' : World} {lo top n c B : Nat} {A : Option Addr} {ps : List (List Int)} (h : PartsAt w lo top A n c ps) (hg : w.grownBy w' (rowOf A)) : KeepsFrom B w w' := by
  refine ⟨hg.size, fun k o _ ho hc => (hg.block k (Array.getElem?_eq_some_iff.1 ho).1 (fun e => ?_)).trans ho⟩
  obtain ⟨vs, h1, _⟩ := h
  rcases A with _ | ad
  · simp [rowOf] at e
  · obtain ⟨cur, hcur⟩ := row_block h1.2
    have : k = ad.block := by simpa [rowOf] using e
    rw [this, hcur] at ho; cases ho; cases hc
theorem parts_ne {w : World} {lo top n c bx : Nat} {A : Option Addr} {ps : List (List Int)} {cs : Array Value} (h : PartsAt w lo top A n c ps) (hb : w.heap[bx]? = some (.cells cs 3 (0, 0))) : some bx ≠ rowOf A := by
  obtain ⟨vs, h1, _⟩ := h
  rcases A with _ | ad
  · simp [rowOf]
  · obtain ⟨cur, hcur⟩ := row_block h1.2
    intro e
    have : bx = ad.block := by simpa [rowOf] using e
    rw [this, hcur] at hb
    injection hb with hb
    injection hb with _ hb _
    exact absurd hb (by decide)
theorem parts_set {w : World} {lo top n c q : Nat} {A : Option Addr} {ps : List (List Int)} (h : PartsAt w lo top A n c ps) (hq : q < lo) (v : Value) : PartsAt (w.setCell ⟨q, 0, none⟩ v) lo top A n c ps := by
  refine h.other (grown_set w q 0 v) (fun ad e => ?_) (fun ad m k p hp => ?_)
  · obtain ⟨vs, h1, _⟩ := h
    subst e
    have := own_lo h1.2
    simp; omega
  · have := own_lo hp
    simp; omega

set_option maxRecDepth 100000 in
set_option maxHeartbeats 2000000 in
theorem forcedLeaps_any (W H : Int) (A : Option Addr) (n c : Nat) (xs : List Int) (a b : Int) (w : World) (ha : Rd w A n xs) (hT : Tab64 w) (hgb : 0 < w.heap.size) :
    Calls Tryd.prog 17 #[brd W H A n c, lpr a b] w fun e w' => ∃ A' n' c', e = .returned (.tuple #[.slice A' n' c', .bool (twoV W H xs a b)]) ∧ PartsAt w' w.heap.size w'.heap.size A' n' c' (forcedV W H xs a b) ∧ Below w.heap.size w w' := by
  refine (callsIn_wide (n := 9)).1 ?_
  refine callsIn_of_wp_marks Tryd.func17 rfl trivial ?_ rfl
  simp only [Tryd.ntmps17, List.size_toArray, List.length_cons, List.length_nil, Nat.reduceAdd, Nat.reduceSub, Array.replicate_succ, Array.replicate_zero, List.push_toArray, List.append_toArray, List.nil_append, List.cons_append]
  by_cases ht : twoV W H xs a b = true
  · have hg := two_gK ht
    have hl := two_lp ht
    have HT := Lib.hid hT; have HG := Lib.hid hg; have HLp := Lib.hid hl; have HTw := Lib.hid ht
    clear hT hg hl
    gi_wp2
    refine ⟨trivial, (callsIn_wide.2 (isOnE_any W H A n c xs a b _ ((ha.alloc _).alloc _))).mono ?_⟩
    rw [ht]
    clear ht
    rintro e wv ⟨rfl, hb⟩
    have hbx0 := below_box hb
    have a0 : wv.cell? ⟨w.heap.size, 0, none⟩ = some (.int .i64 W) := by simpa using newbox hbx0 0
    have a1 : wv.cell? ⟨w.heap.size, 1, none⟩ = some (.int .i64 H) := by simpa using newbox hbx0 1
    have a2 : wv.cell? ⟨w.heap.size, 2, none⟩ = some (.slice A n c) := by simpa using newbox hbx0 2
    have l0 : wv.cell? ⟨w.heap.size + 1, 0, none⟩ = some (.int .i64 a) := by simpa using newbox hb 0
    have l1 : wv.cell? ⟨w.heap.size + 1, 1, none⟩ = some (.int .i64 b) := by simpa using newbox hb 1
    have B := below_box hbx0
    clear hb hbx0
    have hG := groundOf_any W H A n c xs a b wv (ha.keep B) HG.out HLp.out (HT.out.keep hgb B) (Nat.lt_of_lt_of_le hgb B.size)
    gi_wp2
    refine ⟨trivial, (callsIn_wide.2 hG).mono ?_⟩
    rintro e w2 ⟨rfl, hB2⟩
    clear hG a0 a1 a2 l0 l1
    have hst : (Instr.storeAt 55 (.pointer (some ⟨w2.heap.size, 0, none⟩)) (.agg (words (gl W H xs a b (cellsL W H xs))).toArray)).run Tryd.prog (w2.alloc (.cells Tryd.zeroCells55 55)) = .ok () (w2.alloc (.cells (words (gl W H xs a b (cellsL W H xs))).toArray 55)) :=
      run_storeAt_new _ _ _ _ (by rw [info_ground]; simp [words, gl]) (by rw [zero_ground]; simp [words, gl]) (all_oneCell_toArray (words_one _))
    obtain ⟨Wa, hWa⟩ : ∃ Wa, Wa = w2.alloc (.cells (words (gl W H xs a b (cellsL W H xs))).toArray 55) := ⟨_, rfl⟩
    have hha : Wa.heap[w2.heap.size]? = some (.cells (words (gl W H xs a b (cellsL W H xs))).toArray 55 (0, 0)) := by rw [hWa]; exact World.alloc_heap_new _ _
    have hca : Wa.cell? ⟨w2.heap.size, 0, none⟩ = some (.int .u64 ((allS W H xs : Nat) : Int)) := by
      rw [cell_of_row _ _ 0 _ _ _ hha]; simp [words, gl, allS]
    have hsa : Wa.heap.size = w2.heap.size + 1 := by rw [hWa]; simp
    have hba : Below w.heap.size w Wa := by
      rw [hWa]; exact (B.trans (hB2.mono B.size)).alloc (Nat.le_trans B.size hB2.size) _
    rw [← hWa] at hst
    have hle : w.heap.size ≤ w2.heap.size := Nat.le_trans B.size hB2.size
    clear hWa hB2 B
    have HHA := Lib.hid hha
    clear hha
    gi_wp2_with (refine wpIn_store_run 55 _ _ _ _ rfl rfl rfl hst ?_)
    obtain ⟨hW9, hH9, _, _⟩ := goodB_iff.1 HG.out
    have HN := Lib.hid (cells_le hW9 hH9)
    clear hW9 hH9
    have hcl : ∀ x ∈ cellsL W H xs, 0 ≤ x ∧ x < 64 := fun x hx => by
      have h1 := (hasB_iff.1 (cellsL_mem.1 hx)).1
      obtain ⟨hW, hH, _, _⟩ := goodB_iff.1 HG.out
      have := cells_le hW hH
      omega
    have hlt : allS W H xs < 18446744073709551616 := set_lt hcl
    have hit := each_hands (9 - 1) _ hlt
    rw [show bitsL (allS W H xs) = cellsL W H xs from set_bits (cellsL_rise W H xs) hcl] at hit
    obtain ⟨Wb, hWb⟩ : ∃ Wb, Wb = Wa.alloc (.cells #[.slice none 0 0] 39) := ⟨_, rfl⟩
    have hsb : Wb.heap.size = w2.heap.size + 2 := by rw [hWb]; simp; omega
    have hbb : Below w.heap.size w Wb := by rw [hWb]; exact hba.alloc (by omega) _
    have hgb2 : Wb.heap[w2.heap.size]? = some (.cells (words (gl W H xs a b (cellsL W H xs))).toArray 55 (0, 0)) := by rw [hWb, Below.heap_alloc _ _ _ (by omega)]; exact HHA.out
    have hqb : Wb.heap[w2.heap.size + 1]? = some (.cells #[.slice none 0 0] 39 (0, 0)) := by rw [hWb, ← hsa]; exact World.alloc_heap_new _ _
    rw [← hWb]
    clear hWb hst hca
    have h0 : RowsG w Wb w2.heap.size (w2.heap.size + 1) (words (gl W H xs a b (cellsL W H xs))).toArray (forcedL W H xs a b []) Wb := ⟨hbb, Nat.le_refl _, hgb2, 0, none, 0, 0, Nat.zero_le _, hqb, PartsAt.none_ _ _ _⟩
    refine wpIn_handsLB (q := 8) rfl (fun args w => by simp [go_sem]) hit (fun pre => RowsG w Wb w2.heap.size (w2.heap.size + 1) (words (gl W H xs a b (cellsL W H xs))).toArray (forcedL W H xs a b pre)) (fun pre w' h => HT.out.keep hgb h.1)
      (fun s W1 W2 row h hgr hr => rowsG_turn (by omega) (by omega) (by omega) h hgr hr) h0 ?_ ?_ ?_
    · intro l pre x W' K hI hK
      have HK := Lib.hid hK
      clear hK
      gi_wp2
      refine HK.out W'.heap.size _ ?_ ?_ hI.2.1 (World.alloc_heap_new _ _)
      · exact KeepsFrom.of_grownBy (World.grownBy_alloc W' _ none) (fun j e => by cases e)
      · exact rowsG_turn (by omega) (by omega) (by omega) hI (World.grownBy_alloc W' _ none) (fun r e => by cases e)
    · rintro l pre x rest bx W' hl ⟨r₀, hlr⟩ hsp hI hbx hbc
      have hx : x ∈ cellsL W H xs := by rw [hsp]; simp
      have h0x : 0 ≤ x := (hcl x hx).1
      have h1x : x < 64 := (hcl x hx).2
      have hcell : W'.cell? ⟨w2.heap.size, 1 + x.toNat, none⟩ = some (.int .u64 ((nearS W H xs a b x : Nat) : Int)) := by rw [cell_of_row _ _ _ _ _ _ hI.2.2.1, gl_get h0x h1x hx]
      have hbxc : W'.cell? ⟨bx, 0, none⟩ = some (.int .i64 x) := by rw [cell_of_row _ _ _ _ _ _ hbc]; rfl
      have hlb : ∀ y ∈ leapsL W H xs a b x, 0 ≤ y ∧ y < 64 := fun y hy => hcl y (List.mem_filter.1 hy).1
      have hit2 := each_hands (9 - 1 - 1 - 1) (nearS W H xs a b x) (set_lt hlb)
      rw [show bitsL (nearS W H xs a b x) = leapsL W H xs a b x from set_bits ((cellsL_rise W H xs).filter _) hlb] at hit2
      have hsW := hI.2.1
      have HI0 := Lib.hid hI; have HSP := Lib.hid hsp; have HBC := Lib.hid hbc; have HLR := Lib.hid hlr
      clear hI hsp hbc hit h0 hgb2 hqb hba hbb hlr
      gi_wp2
      refine wpIn_handsNQ (q := 9) HLR.out rfl (fun args w => by simp [go_sem]) hit2 (fun pre2 V => RowsG w Wb w2.heap.size (w2.heap.size + 1) (words (gl W H xs a b (cellsL W H xs))).toArray (forcedL W H xs a b pre ++ rowF W H xs a b x pre2) V ∧ V.heap[bx]? = some (.cells #[.int .i64 x] 3 (0, 0)) ∧ KeepsFrom Wb.heap.size W' V)
        (fun pre w' h => HT.out.keep hgb h.1.1) (fun s W1 W2 row h hgr hr => ⟨rowsG_turn (by omega) (by omega) (by omega) h.1 hgr (fun r e => ⟨Nat.le_trans hsW (hr r e).1, (hr r e).2⟩), (hgr.block bx (Array.getElem?_eq_some_iff.1 h.2.1).1 (fun e2 => by
          obtain ⟨_, o, ho, hc⟩ := hr bx e2.symm
          have := h.2.1; rw [this] at ho; cases ho; cases hc)).trans h.2.1, ownFrom_keepsFrom (β := Unit) (B := Wb.heap.size) (w₀ := W') (Nat.le_refl _) () W1 W2 row h.2.2 hgr hr⟩) ⟨by simpa [rowF] using HI0.out, HBC.out, KeepsFrom.refl _ _⟩ ?_ ?_ ?_
      · intro l x W' K hK
        gi_wp2
        exact hK
      · rintro l2 pre2 d rest2 W5 hl2 hsp2 ⟨hI5, hb5, hk5⟩
        have hd0 : d ∈ leapsL W H xs a b x := by rw [hsp2]; simp
        have hdc : d ∈ cellsL W H xs := (List.mem_filter.1 hd0).1
        have hb5c : W5.cell? ⟨bx, 0, none⟩ = some (.int .i64 x) := by rw [cell_of_row _ _ _ _ _ _ hb5]; rfl
        have hld := run_loadAt_mid (P := Tryd.prog) W5 w2.heap.size 0 55 (words (gl W H xs a b (cellsL W H xs))) (.struct _) (fun j v hv => by rw [Nat.zero_add, cell_of_row _ _ _ _ _ _ hI5.2.2.1]; simpa using hv) rfl rfl (by rw [info_ground]; simp [words, gl])
        have hF1 := isForced_any W H xs a b x W5 HG.out hx
        have HI5 := Lib.hid hI5; have HB5 := Lib.hid hb5; have HK5 := Lib.hid hk5; have HS2 := Lib.hid hsp2
        clear hI5 hb5 hk5 hsp2 hit2 hcell hbxc
        by_cases hlt2 : x < d
        · by_cases hf1 : forcedB W H xs a b x = true
          · have HPK := Lib.hid (show pickB W H xs a b x d = true by simp [pickB, hlt2, hf1])
            rw [hf1] at hF1
            gi_wp2_with (refine wpListIn_load_w 55 _ _ _ rfl rfl (by simp [Region.wanted, yielded]) hld ?_)
            refine ⟨trivial, (callsIn_wide.2 hF1).mono ?_⟩
            rintro e w6 ⟨rfl, hB6⟩
            clear hF1 hld hb5c
            have h6 := rowsG_turn (by omega) (by omega) (by omega) HI5.out (grown_of_below hB6 none) (fun r e => by cases e)
            have hbx6 := (hB6.block bx (Array.getElem?_eq_some_iff.1 HB5.out).1).trans HB5.out
            have hk6 : KeepsFrom Wb.heap.size W5 w6 := KeepsFrom.of_grownBy (grown_of_below hB6 none) (fun j e => by cases e)
            have HLD := Lib.hid (run_loadAt_mid (P := Tryd.prog) w6 w2.heap.size 0 55 (words (gl W H xs a b (cellsL W H xs))) (.struct _) (fun j v hv => by rw [Nat.zero_add, cell_of_row _ _ _ _ _ _ h6.2.2.1]; simpa using hv) rfl rfl (by rw [info_ground]; simp [words, gl]))
            obtain ⟨hb6, hs6, hc6, top, A6, n6, c6, htp6, hq6, hp6⟩ := h6
            have hn6 : n6 ≤ 100000 := by
              have h1 := hp6.len
              have h2 := forcedL_len W H xs a b HN.out pre
              have h3 := rowF_len W H xs a b x pre2
              have h4 := leapsL_len64 (W := W) (H := H) (xs := xs) (a := a) (b := b) (q := x) HN.out
              have h5 : (cellsL W H xs).length ≤ (W * H).toNat := cellsTo_len _
              rw [HS2.out, List.length_append] at h4
              rw [HSP.out, List.length_append] at h5
              rw [List.length_append] at h1
              have := HN.out
              omega
            have hqc6 : w6.cell? ⟨w2.heap.size + 1, 0, none⟩ = some (.slice A6 n6 c6) := by rw [cell_of_row _ _ _ _ _ _ hq6]; rfl
            have hbc6 : w6.cell? ⟨bx, 0, none⟩ = some (.int .i64 x) := by rw [cell_of_row _ _ _ _ _ _ hbx6]; rfl
            have HP6 := Lib.hid (hp6.keep ((Below.refl _ _).alloc (Nat.le_refl _) (.cells #[.int .i64 x, .int .i64 d] 3)))
            have HQ6 := Lib.hid ((Below.heap_alloc w6 (.cells #[.int .i64 x, .int .i64 d] 3) (w2.heap.size + 1) (by omega)).trans hq6)
            have HC6 := Lib.hid hc6; have HBX6 := Lib.hid hbx6; have HB6 := Lib.hid hb6; have HKK6 := Lib.hid hk6
            clear hp6 hq6 hc6 hbx6 hb6 hk6
            gi_wp2
            refine ⟨trivial, ?_⟩
            gi_wp2_with (first
              | refine wpListIn_load_w 55 _ _ _ rfl rfl (by simp [Region.wanted, yielded]) HLD.out ?_
              | (refine wpListIn_appS rfl (.tmp 40) (.tmp 44) rfl Wb.heap.size top A6 n6 c6 _ (some ⟨w6.heap.size, 0, none⟩) 2 2 [x, d] rfl HP6.out (own_two w6 _ x d hs6) (fun y hy => by injection hy with hy; rw [← hy]; exact htp6) (by simp; omega) (by show _ = Value.slice (some ⟨(w6.alloc _).heap.size, 0, none⟩) 1 1; rw [World.size_alloc]; rfl) (by omega) (by simp; omega) ?_; intro A7 c7 w7 hpa7 hb7 _ _ _ hgr7; have hq7 := (hb7.block (w2.heap.size + 1) (by omega)).trans HQ6.out; have hqc7 : w7.cell? ⟨w2.heap.size + 1, 0, none⟩ = some (.slice A6 n6 c6) := (by rw [cell_of_row _ _ _ _ _ _ hq7]; rfl); have hqf7 : w7.frozen? ⟨w2.heap.size + 1, 0, none⟩ = false := frozen_of_row _ _ _ _ _ hq7; have HQ7 := Lib.hid hq7; have HPA7 := Lib.hid hpa7; have HB7 := Lib.hid hb7; have HGR7 := Lib.hid hgr7; clear hq7 hpa7 hb7 hgr7))
            have hgs := grown_set w7 (w2.heap.size + 1) 0 (.slice A7 (n6 + 1) c7)
            have hal : Below w6.heap.size w6 (w6.alloc (.cells #[.int .i64 x, .int .i64 d] 3)) := (Below.refl _ _).alloc (Nat.le_refl _) _
            have hk8 : KeepsFrom Wb.heap.size W5 (w7.setCell ⟨w2.heap.size + 1, 0, none⟩ (.slice A7 (n6 + 1) c7)) :=
              ((HKK6.out.trans (KeepsFrom.of_grownBy (World.grownBy_alloc w6 _ none) (fun j e => by cases e))).trans (parts_keeps HP6.out HGR7.out)).trans (KeepsFrom.of_grownBy hgs (fun j e => by cases e; omega))
            have hs7 := HGR7.out.size
            have hs8 := hgs.size
            have hs66 : (w6.alloc (.cells #[.int .i64 x, .int .i64 d] 3)).heap.size = w6.heap.size + 1 := by simp
            refine ⟨⟨hk8.size, fun k o hB hk ho => hk8.same k o (Nat.le_trans hsW hB) hk ho⟩, trivial, ⟨?_, ?_, ?_, _, A7, n6 + 1, c7, Nat.le_trans hs7 hs8, ?_, ?_⟩, ?_, HK5.out.trans hk8⟩
            · exact ((HB6.out.trans (hal.mono (by have := HB6.out.size; omega))).trans (HB7.out.mono (by omega))).grown hgs (by omega) (fun k e => by cases e; omega)
            · omega
            · exact (hgs.block w2.heap.size (by omega) (by simp)).trans ((HB7.out.block w2.heap.size (by omega)).trans ((Below.heap_alloc _ _ _ (by omega)).trans HC6.out))
            · rw [heap_set _ HQ7.out]; rfl
            · rw [rowF_snoc, HPK.out, ← List.append_assoc]
              exact parts_set HPA7.out (by omega) _
            · have hbl := Below.heap_alloc w6 (.cells #[.int .i64 x, .int .i64 d] 3) bx (Array.getElem?_eq_some_iff.1 HBX6.out).1
              have hb1 := hbl.trans HBX6.out
              have hb2 := (HGR7.out.block bx (Array.getElem?_eq_some_iff.1 hb1).1 (parts_ne HP6.out hb1)).trans hb1
              exact (hgs.block bx (Array.getElem?_eq_some_iff.1 hb2).1 (by simp; omega)).trans hb2
          · have hff : forcedB W H xs a b x = false := by simpa using hf1
            rw [hff] at hF1
            gi_wp2_with (refine wpListIn_load_w 55 _ _ _ rfl rfl (by simp [Region.wanted, yielded]) hld ?_)
            refine ⟨trivial, (callsIn_wide.2 hF1).mono ?_⟩
            rintro e w5 ⟨rfl, hB5⟩
            clear hF1 hld hb5c
            have h5 := rowsG_turn (by omega) (by omega) (by omega) HI5.out (grown_of_below hB5 none) (fun r e => by cases e)
            have hbx5 := (hB5.block bx (Array.getElem?_eq_some_iff.1 HB5.out).1).trans HB5.out
            have hk55 : KeepsFrom Wb.heap.size W5 w5 := KeepsFrom.of_grownBy (grown_of_below hB5 none) (fun j e => by cases e)
            have hld := run_loadAt_mid (P := Tryd.prog) w5 w2.heap.size 0 55 (words (gl W H xs a b (cellsL W H xs))) (.struct _) (fun j v hv => by rw [Nat.zero_add, cell_of_row _ _ _ _ _ _ h5.2.2.1]; simpa using hv) rfl rfl (by rw [info_ground]; simp [words, gl])
            have hF2 := isForced_any W H xs a b d w5 HG.out hdc
            gi_wp2_with (refine wpListIn_load_w 55 _ _ _ rfl rfl (by simp [Region.wanted, yielded]) hld ?_)
            refine ⟨trivial, (callsIn_wide.2 hF2).mono ?_⟩
            rintro e w6 ⟨rfl, hB6⟩
            clear hF2
            have h6 := rowsG_turn (by omega) (by omega) (by omega) h5 (grown_of_below hB6 none) (fun r e => by cases e)
            have hbx6 := (hB6.block bx (Array.getElem?_eq_some_iff.1 hbx5).1).trans hbx5
            have hk6 : KeepsFrom Wb.heap.size W5 w6 := hk55.trans (KeepsFrom.of_grownBy (grown_of_below hB6 none) (fun j e => by cases e))
            have HLD := Lib.hid hld
            clear hld h5 hbx5 hk55
            by_cases hf2 : forcedB W H xs a b d = true
            · have HPK := Lib.hid (show pickB W H xs a b x d = true by simp [pickB, hlt2, hf2])
              rw [hf2]
              obtain ⟨hb6, hs6, hc6, top, A6, n6, c6, htp6, hq6, hp6⟩ := h6
              have hn6 : n6 ≤ 100000 := by
                have h1 := hp6.len
                have h2 := forcedL_len W H xs a b HN.out pre
                have h3 := rowF_len W H xs a b x pre2
                have h4 := leapsL_len64 (W := W) (H := H) (xs := xs) (a := a) (b := b) (q := x) HN.out
                have h5 : (cellsL W H xs).length ≤ (W * H).toNat := cellsTo_len _
                rw [HS2.out, List.length_append] at h4
                rw [HSP.out, List.length_append] at h5
                rw [List.length_append] at h1
                have := HN.out
                omega
              have hqc6 : w6.cell? ⟨w2.heap.size + 1, 0, none⟩ = some (.slice A6 n6 c6) := by rw [cell_of_row _ _ _ _ _ _ hq6]; rfl
              have hbc6 : w6.cell? ⟨bx, 0, none⟩ = some (.int .i64 x) := by rw [cell_of_row _ _ _ _ _ _ hbx6]; rfl
              have HP6 := Lib.hid (hp6.keep ((Below.refl _ _).alloc (Nat.le_refl _) (.cells #[.int .i64 x, .int .i64 d] 3)))
              have HQ6 := Lib.hid ((Below.heap_alloc w6 (.cells #[.int .i64 x, .int .i64 d] 3) (w2.heap.size + 1) (by omega)).trans hq6)
              have HC6 := Lib.hid hc6; have HBX6 := Lib.hid hbx6; have HB6 := Lib.hid hb6; have HKK6 := Lib.hid hk6
              clear hp6 hq6 hc6 hbx6 hb6 hk6
              gi_wp2_with (first
                | refine wpListIn_load_w 55 _ _ _ rfl rfl (by simp [Region.wanted, yielded]) HLD.out ?_
                | (refine wpListIn_appS rfl (.tmp 40) (.tmp 44) rfl Wb.heap.size top A6 n6 c6 _ (some ⟨w6.heap.size, 0, none⟩) 2 2 [x, d] rfl HP6.out (own_two w6 _ x d hs6) (fun y hy => by injection hy with hy; rw [← hy]; exact htp6) (by simp; omega) (by show _ = Value.slice (some ⟨(w6.alloc _).heap.size, 0, none⟩) 1 1; rw [World.size_alloc]; rfl) (by omega) (by simp; omega) ?_; intro A7 c7 w7 hpa7 hb7 _ _ _ hgr7; have hq7 := (hb7.block (w2.heap.size + 1) (by omega)).trans HQ6.out; have hqc7 : w7.cell? ⟨w2.heap.size + 1, 0, none⟩ = some (.slice A6 n6 c6) := (by rw [cell_of_row _ _ _ _ _ _ hq7]; rfl); have hqf7 : w7.frozen? ⟨w2.heap.size + 1, 0, none⟩ = false := frozen_of_row _ _ _ _ _ hq7; have HQ7 := Lib.hid hq7; have HPA7 := Lib.hid hpa7; have HB7 := Lib.hid hb7; have HGR7 := Lib.hid hgr7; clear hq7 hpa7 hb7 hgr7))
              have hgs := grown_set w7 (w2.heap.size + 1) 0 (.slice A7 (n6 + 1) c7)
              have hal : Below w6.heap.size w6 (w6.alloc (.cells #[.int .i64 x, .int .i64 d] 3)) := (Below.refl _ _).alloc (Nat.le_refl _) _
              have hk8 : KeepsFrom Wb.heap.size W5 (w7.setCell ⟨w2.heap.size + 1, 0, none⟩ (.slice A7 (n6 + 1) c7)) :=
                ((HKK6.out.trans (KeepsFrom.of_grownBy (World.grownBy_alloc w6 _ none) (fun j e => by cases e))).trans (parts_keeps HP6.out HGR7.out)).trans (KeepsFrom.of_grownBy hgs (fun j e => by cases e; omega))
              have hs7 := HGR7.out.size
              have hs8 := hgs.size
              have hs66 : (w6.alloc (.cells #[.int .i64 x, .int .i64 d] 3)).heap.size = w6.heap.size + 1 := by simp
              refine ⟨⟨hk8.size, fun k o hB hk ho => hk8.same k o (Nat.le_trans hsW hB) hk ho⟩, trivial, ⟨?_, ?_, ?_, _, A7, n6 + 1, c7, Nat.le_trans hs7 hs8, ?_, ?_⟩, ?_, HK5.out.trans hk8⟩
              · exact ((HB6.out.trans (hal.mono (by have := HB6.out.size; omega))).trans (HB7.out.mono (by omega))).grown hgs (by omega) (fun k e => by cases e; omega)
              · omega
              · exact (hgs.block w2.heap.size (by omega) (by simp)).trans ((HB7.out.block w2.heap.size (by omega)).trans ((Below.heap_alloc _ _ _ (by omega)).trans HC6.out))
              · rw [heap_set _ HQ7.out]; rfl
              · rw [rowF_snoc, HPK.out, ← List.append_assoc]
                exact parts_set HPA7.out (by omega) _
              · have hbl := Below.heap_alloc w6 (.cells #[.int .i64 x, .int .i64 d] 3) bx (Array.getElem?_eq_some_iff.1 HBX6.out).1
                have hb1 := hbl.trans HBX6.out
                have hb2 := (HGR7.out.block bx (Array.getElem?_eq_some_iff.1 hb1).1 (parts_ne HP6.out hb1)).trans hb1
                exact (hgs.block bx (Array.getElem?_eq_some_iff.1 hb2).1 (by simp; omega)).trans hb2
            · have hf3 : forcedB W H xs a b d = false := by simpa using hf2
              have HPK := Lib.hid (show pickB W H xs a b x d = false by simp [pickB, hff, hf3])
              rw [hf3]
              have HI6 := Lib.hid h6; have HB6 := Lib.hid hbx6; have HK6 := Lib.hid hk6
              clear h6 hbx6 hk6
              gi_wp2
              exact ⟨⟨HK6.out.size, fun k o hB hk ho => HK6.out.same k o (Nat.le_trans hsW hB) hk ho⟩, trivial, by rw [rowF_snoc, HPK.out]; simpa using HI6.out, HB6.out, HK5.out.trans HK6.out⟩
        · have hlt3 : ¬ x < d := hlt2
          have HPK := Lib.hid (show pickB W H xs a b x d = false by simp [pickB, hlt2])
          clear hlt2
          gi_wp2
          refine ⟨trivial, ?_⟩
          gi_wp2_with (rename_i h8 h9; exact undef_bool h8)
          refine ⟨trivial, ?_⟩
          gi_wp2_with (rename_i h8 h9; exact undef_bool h8)
          exact ⟨KeepsFrom.refl _ _, trivial, by rw [rowF_snoc, HPK.out]; simpa using HI5.out, HB5.out, HK5.out⟩
      · rintro W5 ⟨hI5, _, hk5⟩
        have hfl : forcedL W H xs a b pre ++ rowF W H xs a b x (leapsL W H xs a b x) = forcedL W H xs a b (pre ++ [x]) := by simp [forcedL]
        rw [hfl] at hI5
        have HI5 := Lib.hid hI5
        clear hI5
        gi_wp2
        exact ⟨hk5, trivial, HI5.out⟩
    · rintro D W' hD ⟨hb1, hs1, hc1, top, A1, n1, c1, htp, hq1, ho1⟩ hd
      have hqc : W'.cell? ⟨w2.heap.size + 1, 0, none⟩ = some (.slice A1 n1 c1) := by rw [cell_of_row _ _ _ _ _ _ hq1]; rfl
      have HO := Lib.hid ho1; have HB1 := Lib.hid hb1
      clear ho1 hc1 hq1 hb1 hit h0 hgb2 hqb hba hbb hcl
      gi_wp2
      refine ⟨by simp, .inl ⟨_, _, rfl, run_takeDeferred hd, ?_⟩⟩
      refine ⟨_, results_tmp2 rfl _ _ _, A1, n1, c1, by rw [HTw.out]; rfl, ?_, ?_⟩
      · have hv : forcedV W H xs a b = forcedL W H xs a b (cellsL W H xs) := by rw [forcedV, if_pos HTw.out]
        rw [hv]
        have hne : ∀ (k : Nat) (cur : Array Value) (E : TypeId), W'.heap[k]? = some (.cells cur E (0, 0)) → some k ≠ some D := fun k cur E hk e => by injection e with e; rw [e, hd] at hk; cases hk
        exact (OwnSS.of ((HO.out.other (grownBy_putObj' W' D _) (fun ad e => by
          obtain ⟨vs, h1, _⟩ := HO.out
          subst e
          obtain ⟨cur, hcur⟩ := row_block h1.2
          exact hne _ _ _ hcur) (fun ad m k p hp => by
          obtain ⟨cur, hcur⟩ := row_block hp
          exact hne _ _ _ hcur)).lower (by omega))).1
      · exact HB1.out.grown (grownBy_putObj' W' D _) (by omega) (fun k e => by cases e; omega)
  · have hv : twoV W H xs a b = false := by simpa using ht
    clear ht
    gi_wp2
    refine ⟨trivial, (callsIn_wide.2 (isOnE_any W H A n c xs a b _ ((ha.alloc _).alloc _))).mono ?_⟩
    rw [hv]
    rintro e wv ⟨rfl, hb⟩
    have B := Lib.hid (below_box (below_box hb))
    clear hb
    gi_wp2
    refine ⟨_, results_tmp2 rfl _ _ _, none, 0, 0, by rw [hv]; rfl, ?_, B.out⟩
    have hz : forcedV W H xs a b = [] := by rw [forcedV, hv]; rfl
    rw [hz]
    exact PartsAt.none_ _ _ _
end Go.Proofs.YtihcbpbepedaiaaDoor
