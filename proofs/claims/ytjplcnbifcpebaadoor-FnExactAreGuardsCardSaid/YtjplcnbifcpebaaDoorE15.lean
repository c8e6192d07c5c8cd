/-
  Contracts: whether no two of some cells are near to each other.
-/
import Derived.Test.YtjplcnbifcpebaaDoorE14
import Derived.Test.YtjplcnbifcpebaaDoorE4
import Derived.Sort.QuietIn
import Derived.BigRegionIn
namespace Go.Proofs.YtjplcnbifcpebaaDoor
open Go.RowKit Go.Shelf
attribute [local go_sem] Oper.semAt_some

theorem wpIn_handsSQ {P : Program} {n : Nat} {g : Operand} {p q : Tmp} {assign body : Code} {Q : Exit → Act → World → Prop} {a : Act} {w : World} {gf : Nat} {sv : Value}
    (hg : a.eval g = .func (.func gf) #[sv] #[]) (eg : ∀ args w, (callFunc gf args).run P w = .ok (.enter gf args) w)
    {xs : List Int} {T : World → Prop} (hit : HandsS P (n - 1) gf sv xs T)
    (I : List Int → World → Prop) (Ix : Code → List Int → World → Prop) (hT : ∀ pre w, I pre w → T w) (hI : OwnFrom w.heap.size I) (hIx : ∀ c, OwnFrom w.heap.size (Ix c)) (h0 : I [] w)
    (hassign : ∀ (l : Nat) (x : Int) (W : World) (K : Act → World → Prop), K { tmps := (a.tmps.setIfInBounds p (.int .i64 x)).setIfInBounds q (.int .i64 x), defers := [] } W →
      assign.wpIn (Fence.wide.inRound l) (n - 1 - 1) P (Exit.then K (fun _ _ _ => False)) { tmps := ((#[p] : Array Tmp).zip #[Value.int .i64 x]).foldl (fun t (p, v) => t.setIfInBounds p v) a.tmps, defers := [] } W)
    (hbody : ∀ (l : Nat) (pre : List Int) (x : Int) (rest : List Int) (W : World), w.heap.size ≤ l → xs = pre ++ x :: rest → I pre W →
      body.wpIn (Fence.wide.inRound l) (n - 1 - 1) P (ownPostG w.heap.size (fun _ _ => True) I Ix (pre ++ [x]) W) { tmps := (a.tmps.setIfInBounds p (.int .i64 x)).setIfInBounds q (.int .i64 x), defers := [] } W)
    (hdone : ∀ (D : Nat) (W : World), w.heap.size ≤ D → I xs W → W.heap[D]? = some (.deferred (some [])) → Q .normal { a with defers := { target := .collected D, args := #[] } :: a.defers } W)
    (hstop : ∀ (D : Nat) (c : Code) (pre : List Int) (W : World), w.heap.size ≤ D → Ix c pre W → W.heap[D]? = some (.deferred (some [])) → c.wpIn Fence.wide n P Q { a with defers := { target := .collected D, args := #[] } :: a.defers } W) :
    (Code.rangeFunc g #[p] assign body).wpIn Fence.wide n P Q a w :=
  wpIn_handsS hg eg hit I Ix hT hI hIx h0 (fun x => { tmps := (a.tmps.setIfInBounds p (.int .i64 x)).setIfInBounds q (.int .i64 x), defers := [] }) hassign hbody hdone hstop
theorem results_cell_one {P : Program} {fn : Func} {p : Tmp} {ty : TypeId} (h : fn.results = #[.cell p ty]) (tmps : Array Value) (w : World) (a : Addr) (v : Value)
    (hp : tmps.getD p undef = .pointer (some a)) (hl : (loadVar ty a).run P w = .ok v w) : (results fn tmps).run P w = .ok v w := by
  have hp' : tmps[p]?.getD undef = .pointer (some a) := by simpa using hp
  simp [results, h, hp', asAddr, hl]

/-- No cell of a set is near to another one, by the ground's words. -/
def freeB (G : List Nat) (s : Nat) : Bool := (bitsL s).all fun x => (G.getD (1 + x.toNat) 0 &&& s) == 0

theorem load_bool {W : World} {p : Addr} {b : Bool} (h : W.cell? p = some (.bool b)) : (loadVar 4 p).run Tryd.prog W = .ok (.bool b) W := by
  have ha := Tryd.isAgg4
  simp [loadVar, Sem.run_bind, ha, go_sem, h]

def StopF (G : List Nat) (s : Nat) (c : Code) (_ : List Int) : Prop := c = .ret ∧ freeB G s = false
/-- One block in the midst of a range: what it holds, and a word on the cells that were handed over. -/
def MidC {α : Type} (W3 : World) (g : Nat) (t : TypeId) (C : α → Array Value) (p : α → Prop) (x : α) (W' : World) : Prop :=
  W3.grownBy W' (some g) ∧ W'.heap[g]? = some (.cells (C x) t (0, 0)) ∧ p x
theorem midC_own {α : Type} {W3 : World} {g : Nat} {t : TypeId} {C : α → Array Value} {p : α → Prop} (hg : g < W3.heap.size) : OwnFrom W3.heap.size (MidC W3 g t C p) := by
  intro s W W' row hs hgr hr
  have hne : some g ≠ row := fun e => by have := (hr g e.symm).1; omega
  refine ⟨⟨hgr.os.trans hs.1.os, hgr.tape.trans hs.1.tape, hgr.output.trans hs.1.output, Nat.le_trans hs.1.size hgr.size, fun k hk hkg => ?_⟩, ?_, hs.2.2⟩
  · refine (hgr.block k (Nat.lt_of_lt_of_le hk hs.1.size) (fun e => ?_)).trans (hs.1.block k hk hkg)
    have := (hr k e.symm).1
    omega
  · exact (hgr.block g (Array.getElem?_eq_some_iff.1 hs.2.1).1 hne).trans hs.2.1

set_option maxRecDepth 100000 in
set_option maxHeartbeats 1000000 in
theorem isFree_any (G : List Nat) (hG : G.length = 65) (hGb : ∀ x ∈ G, x < 18446744073709551616) (s : Nat) (hs : s < 18446744073709551616) (w : World) (hT : Tab64 w) (hgb : 0 < w.heap.size) :
    Calls Tryd.prog 31 #[.agg (words G).toArray, .int .u64 (s : Int)] w fun e w' => e = .returned (.bool (freeB G s)) ∧ Below w.heap.size w w' := by
  refine (callsIn_wide (n := 9)).1 ?_
  refine callsIn_of_wp_marks Tryd.func31 rfl trivial ?_ rfl
  simp only [Tryd.ntmps31, List.size_toArray, List.length_cons, List.length_nil, Nat.reduceAdd, Nat.reduceSub, Array.replicate_succ, Array.replicate_zero, List.push_toArray, List.append_toArray, List.nil_append, List.cons_append]
  have HT := Lib.hid hT
  have HGB := Lib.hid hGb
  obtain ⟨W3, hW3⟩ : ∃ W3, W3 = ((w.alloc (.cells (words G).toArray 48)).alloc (.cells #[.int .u64 (s : Int)] 45)).alloc (.cells #[.bool false] 4) := ⟨_, rfl⟩
  have hs3 : W3.heap.size = w.heap.size + 3 := by rw [hW3]; simp
  have hb3 : Below w.heap.size w W3 := by rw [hW3]; exact ((below_new (Below.refl _ _) _).alloc (by simp) _).alloc (by simp; omega) _
  have hg3 : W3.heap[w.heap.size]? = some (.cells (words G).toArray 48 (0, 0)) := by
    rw [hW3, Below.heap_alloc _ _ _ (by simp; omega), Below.heap_alloc _ _ _ (by simp)]; exact World.alloc_heap_new _ _
  have hc3 : W3.heap[w.heap.size + 1]? = some (.cells #[.int .u64 (s : Int)] 45 (0, 0)) := by
    have h := World.alloc_heap_new (w.alloc (.cells (words G).toArray 48)) (.cells #[.int .u64 (s : Int)] 45)
    rw [hW3, Below.heap_alloc _ _ _ (by simp)]; rw [World.size_alloc] at h; exact h
  have hr3 : W3.heap[w.heap.size + 1 + 1]? = some (.cells #[.bool false] 4 (0, 0)) := by
    have h := World.alloc_heap_new ((w.alloc (.cells (words G).toArray 48)).alloc (.cells #[.int .u64 (s : Int)] 45)) (.cells #[.bool false] 4)
    rw [hW3]; rw [World.size_alloc, World.size_alloc] at h; exact h
  clear hT hGb
  gi_wp2
  rw [← hW3]
  clear hW3
  have hit := each_handsS (9 - 1) s hs
  refine wpIn_handsSQ (q := 5) rfl (fun args w => by simp [go_sem]) hit (MidC W3 (w.heap.size + 1 + 1) 4 (fun _ => #[.bool false]) (fun pre => ∀ x ∈ pre, (G.getD (1 + x.toNat) 0 &&& s) = 0))
    (fun c => MidC W3 (w.heap.size + 1 + 1) 4 (fun _ => #[.bool false]) (StopF G s c)) (fun pre w' h => HT.out.keep hgb (hb3.grown h.1 hb3.size (fun k e => by cases e; omega)))
    (midC_own (by omega)) (fun c => midC_own (by omega)) ⟨World.grownBy.refl _ _, hr3, by simp⟩ ?_ ?_ ?_ ?_
  · intro l x W' K hK
    gi_wp2
    exact hK
  · rintro l pre x rest W' hl hsp ⟨hgw, hrw, hpre⟩
    have hx : x ∈ bitsL s := by rw [hsp]; simp
    obtain ⟨hx0, hx1, -⟩ := bitsL_mem.1 hx
    have h0x : 0 ≤ x := hx0
    have h1x : x < 64 := hx1
    obtain ⟨y, hy⟩ : ∃ y, y = G.getD (1 + x.toNat) 0 := ⟨_, rfl⟩
    have hyg : G[1 + x.toNat]? = some y := by rw [hy, List.getD_eq_getElem?_getD, List.getElem?_eq_getElem (by omega)]; rfl
    have hy9 : y < 18446744073709551616 := HGB.out y (List.mem_of_getElem? hyg)
    have HY := Lib.hid hy
    have HSP := Lib.hid hsp
    have hcell : W'.cell? ⟨w.heap.size, 1 + x.toNat, none⟩ = some (.int .u64 (y : Int)) := by
      rw [cell_of_row _ _ _ _ _ _ ((hgw.block w.heap.size (by omega) (by simp; omega)).trans hg3), List.getElem?_toArray, words, List.getElem?_map, hyg]; rfl
    have hsc : W'.cell? ⟨w.heap.size + 1, 0, none⟩ = some (.int .u64 (s : Int)) := by
      rw [cell_of_row _ _ _ _ _ _ ((hgw.block (w.heap.size + 1) (by omega) (by simp)).trans hc3)]; rfl
    have hrc : W'.cell? ⟨w.heap.size + 1 + 1, 0, none⟩ = some (.bool false) := by rw [cell_of_row _ _ _ _ _ _ hrw]; rfl
    have hrf : W'.frozen? ⟨w.heap.size + 1 + 1, 0, none⟩ = false := frozen_of_row _ _ _ _ _ hrw
    have hand := and_nat y s (y : Int) hy9 hs rfl
    have HGW := Lib.hid hgw
    have HRW := Lib.hid hrw
    have HPRE := Lib.hid hpre
    clear hy hgw hrw hpre hsp hx hit hyg hx0 hx1
    by_cases hz : y &&& s = 0
    · have hz0 : (((y &&& s : Nat) : Int) != 0) = false := by rw [hz]; rfl
      have HZ := Lib.hid hz
      clear hz
      have hgo : KeepsFrom W3.heap.size W' W'.drew ∧ True ∧ MidC W3 (w.heap.size + 1 + 1) 4 (fun _ => #[.bool false]) (fun pre => ∀ x ∈ pre, (G.getD (1 + x.toNat) 0 &&& s) = 0) (pre ++ [x]) W'.drew := by
        refine ⟨KeepsFrom.of_grownBy (row := none) ⟨rfl, rfl, rfl, Nat.le_refl _, fun _ _ _ => rfl⟩ (fun j e => by cases e), trivial, ⟨HGW.out.os, HGW.out.tape, HGW.out.output, HGW.out.size, HGW.out.block⟩, HRW.out, ?_⟩
        intro z hz
        rcases List.mem_append.1 hz with h | h
        · exact HPRE.out z h
        · simp at h; subst h; rw [← HY.out]; exact HZ.out
      gi_wp2
      gi_region
      all_goals gi_wp2
      all_goals exact hgo
    · have hz0 : (((y &&& s : Nat) : Int) != 0) = true := by simp; omega
      have HZ := Lib.hid hz
      clear hz
      have hfr : freeB G s = false := by
        rw [freeB, Bool.eq_false_iff]
        intro h
        have := List.all_eq_true.1 h x (by rw [HSP.out]; simp)
        rw [← HY.out] at this
        simp at this
        exact HZ.out this
      have hgs := grown_set W' (w.heap.size + 1 + 1) 0 (.bool false)
      have hgo : KeepsFrom W3.heap.size W' (W'.setCell ⟨w.heap.size + 1 + 1, 0, none⟩ (.bool false)).drew ∧ MidC W3 (w.heap.size + 1 + 1) 4 (fun _ => #[.bool false]) (StopF G s .ret) (pre ++ [x]) (W'.setCell ⟨w.heap.size + 1 + 1, 0, none⟩ (.bool false)).drew := by
        refine ⟨KeepsFrom.of_grownBy (row := some (w.heap.size + 1 + 1)) ⟨hgs.os, hgs.tape, hgs.output, hgs.size, hgs.block⟩ (fun j e => by cases e; omega), grown_next (b := W') ⟨HGW.out.os, HGW.out.tape, HGW.out.output, HGW.out.size, HGW.out.block⟩ ⟨hgs.os, hgs.tape, hgs.output, hgs.size, hgs.block⟩, ?_, rfl, hfr⟩
        have h := heap_set (W := W') (j := 0) (.bool false) HRW.out
        change (W'.setCell ⟨w.heap.size + 1 + 1, 0, none⟩ (.bool false)).heap[w.heap.size + 1 + 1]? = _
        simpa using h
      have HGO := Lib.hid hgo
      clear hgs hfr hgo
      gi_wp2
      gi_region
      all_goals gi_wp2
      all_goals exact HGO.out
  · rintro D W' hD ⟨hgw, hrw, hpre⟩ hd
    have hfr : freeB G s = true := by
      rw [freeB, List.all_eq_true]
      intro x hx
      rw [hpre x hx]; rfl
    have hrc : W'.cell? ⟨w.heap.size + 1 + 1, 0, none⟩ = some (.bool false) := by rw [cell_of_row _ _ _ _ _ _ hrw]; rfl
    have hrf : W'.frozen? ⟨w.heap.size + 1 + 1, 0, none⟩ = false := frozen_of_row _ _ _ _ _ hrw
    have hbw : Below w.heap.size w W' := hb3.grown hgw hb3.size (fun k e => by cases e; omega)
    have hgs := grown_set W' (w.heap.size + 1 + 1) 0 (.bool true)
    have hh2 := heap_set (W := W') (j := 0) (.bool true) hrw
    have hd2 := (hgs.block D (Array.getElem?_eq_some_iff.1 hd).1 (by simp; omega)).trans hd
    have hb4 : Below w.heap.size w (W'.setCell ⟨w.heap.size + 1 + 1, 0, none⟩ (.bool true)) := hbw.grown hgs hbw.size (fun k e => by cases e; omega)
    have HH := Lib.hid hh2
    clear hit hgs hh2 hgw hpre
    gi_wp2
    generalize W'.setCell ⟨w.heap.size + 1 + 1, 0, none⟩ (.bool true) = W4 at *
    refine ⟨by simp, .inl ⟨_, _, rfl, run_takeDeferred hd2, ?_⟩⟩
    have hne : w.heap.size + 1 + 1 ≠ D := by omega
    refine ⟨_, results_cell_one rfl _ _ _ (.bool true) rfl ?_, rfl, hb4.grown (grownBy_putObj' W4 D _) hb4.size (fun k e => by cases e; omega)⟩
    have hc : (W4.putObj D (.deferred none)).cell? ⟨w.heap.size + 1 + 1, 0, none⟩ = some (.bool true) := by
      rw [cell_of_row _ _ _ _ _ _ ((World.putObj_heap_other hne).trans HH.out)]; rfl
    exact load_bool hc
  · rintro D cd pre W' hD ⟨hgw, hrw, rfl, hfr⟩ hd
    have hbw : Below w.heap.size w W' := hb3.grown hgw hb3.size (fun k e => by cases e; omega)
    have HH := Lib.hid hrw
    have HF := Lib.hid hfr
    clear hit hgw hrw hfr
    gi_wp2
    refine ⟨by simp, .inl ⟨_, _, rfl, run_takeDeferred hd, ?_⟩⟩
    have hne : w.heap.size + 1 + 1 ≠ D := by omega
    have hc : (W'.putObj D (.deferred none)).cell? ⟨w.heap.size + 1 + 1, 0, none⟩ = some (.bool false) := by
      rw [cell_of_row _ _ _ _ _ _ ((World.putObj_heap_other hne).trans HH.out)]; rfl
    exact ⟨_, results_cell_one rfl _ _ _ (.bool false) rfl (load_bool hc), by rw [HF.out], hbw.grown (grownBy_putObj' W' D _) hbw.size (fun k e => by cases e; omega)⟩
end Go.Proofs.YtjplcnbifcpebaaDoor
