/-
  Contracts: DeadEnds.
-/
import Derived.Test.YtnmmgalidkambaaGreatDoorE4
namespace Go.Proofs.YtnmmgalidkambaaGreatDoor
open Go.RowKit Go.Shelf
attribute [local go_sem] Oper.semAt_some

theorem isOnE_any (W H : Int) (A : Option Addr) (n c : Nat) (xs : List Int) (a b : Int) (w : World) (ha : Rd w A n xs) :
    Calls Tryz.prog 49 #[brd W H A n c, lpr a b, .slice none 0 0] w fun e w' => e = .returned (.bool (twoV W H xs a b)) ∧ Below w.heap.size w w' := by
  have h := isLeaperOnK_any W H A n c xs a b none 0 0 [] w ha (Rd.nil w none)
  rw [show onK W H xs a b [] = twoV W H xs a b by simp [onK]] at h
  exact h
theorem two_lp {W H a b : Int} {xs : List Int} (h : twoV W H xs a b = true) : leaperB a b = true := by simp only [twoV, Bool.and_eq_true] at h; exact h.2
def deadB (W H : Int) (xs : List Int) (a b c : Int) : Bool := decide ((leapsL W H xs a b c).length ≤ 1)
def deadL (W H : Int) (xs : List Int) (a b : Int) : List Int := (cellsL W H xs).filter (deadB W H xs a b)
def deadV (W H : Int) (xs : List Int) (a b : Int) : List Int := if twoV W H xs a b then deadL W H xs a b else []

theorem wpListIn_app1 {F : Fence} {nF : Nat} {P : Program} {w : World} {ops : Array Oper} {rest : List Oper} {o : Oper} {a : Act} {Q : Exit → Act → World → Prop} (hgd : o.guard = none) (s x : Operand) (T E : TypeId)
    (ho : o.op = .call { callee := .builtin .append, args := #[s, x], argTypes := #[T, T] }) (i0 : TypeInfo)
    (hT : P.underlying T = some (.slice E)) (hi : P.info? E = some i0) (hz0 : i0.zero = some (.int .i64 0)) (hz1 : i0.size = 1) (hz2 : i0.bytes = 8)
    (lo : Nat) (A : Option Addr) (n c : Nat) (xs : List Int) (q : Int) (hs : a.eval s = .slice A n c) (hown : OwnI E w lo A n c xs) (hx : a.eval x = .slice (some ⟨w.heap.size, 0, none⟩) 1 1)
    (hn : n ≤ 1000000) (hlo : lo ≤ w.heap.size)
    (h : ∀ A' c' w', OwnI E w' lo A' (n + 1) c' (xs ++ [q]) → Below lo w w' → KeepsFrom lo w w' → wpListIn F nF P ops Q rest (a.put o.dst (.slice A' (n + 1) c')) w') :
    wpListIn F nF P ops Q (o :: rest) a (w.alloc (.cells #[.int .i64 q] E)) := by
  refine wpListIn_append_own (w.alloc (.cells #[.int .i64 q] E)) hgd s x T ho lo E i0 (.int .i64 0) 1 8 hT hi hz0 hz1 hz2 rfl (by decide) (.slice A n c) n (xs.map (Value.int .i64)) hs (World.ownsRow.alloc hown _)
    ⟨w.heap.size, 0, none⟩ 1 1 [.int .i64 q] hx rfl ?_ ?_ (by unfold maxLen; omega) (by omega) (by simp; omega) ?_
  · intro j u hj
    match j, hj with
    | 0, hj =>
      simp at hj; subst hj
      exact cell_of_row (w.alloc (.cells #[.int .i64 q] E)) w.heap.size 0 #[.int .i64 q] E (0, 0) (World.alloc_heap_new w _)
  · intro u hu; simp at hu; subst hu; rfl
  · intro v' w' hown' hgrow _
    have e : xs.map (Value.int .i64) ++ [.int .i64 q] = (xs ++ [q]).map (Value.int .i64) := by simp
    rw [e] at hown'
    obtain ⟨A', c', rfl, hO⟩ := own_form hown'
    have hb : Below lo w (w.alloc (.cells #[.int .i64 q] E)) := (Below.refl _ _).alloc hlo _
    refine h A' c' w' hO (hb.grown hgrow (by simp; omega) (fun k hk => (World.ownsRow.lt hown k hk).1)) ⟨Nat.le_trans (by simp) hgrow.size, fun k o hk ho hc => ?_⟩
    have hlt := (Array.getElem?_eq_some_iff.1 ho).1
    refine ((hgrow.block k (by simp; omega) (fun e => ?_)).trans (Below.heap_alloc w _ k hlt)).trans ho
    rcases hown.2 with ⟨e1, _⟩ | ⟨g, cap, cur, e1, _, e2, _⟩
    · rw [e1] at e; cases e
    · rw [e1] at e
      have : k = g := by simpa [Value.ownBlock] using e
      rw [this, e2] at ho
      cases ho
      cases hc

/-- The ends that have been found when the cells of pre have been looked at. -/
def EndsG (w Wb : World) (gb q : Nat) (C : Array Value) (p : Int → Bool) (pre : List Int) (W' : World) : Prop :=
  Below w.heap.size w W' ∧ Wb.heap.size ≤ W'.heap.size ∧ W'.heap[gb]? = some (.cells C 58 (0, 0)) ∧
    ∃ A n c, W'.heap[q]? = some (.cells #[.slice A n c] 22 (0, 0)) ∧ OwnI 3 W' Wb.heap.size A n c (pre.filter p)
theorem endsG_own {w Wb : World} {gb q : Nat} {C : Array Value} {p : Int → Bool} (hg : gb < Wb.heap.size) (hq : q < Wb.heap.size) (hw : w.heap.size ≤ Wb.heap.size) : OwnFrom Wb.heap.size (EndsG w Wb gb q C p) := by
  rintro s W1 W2 row ⟨hb, hs, hc, A, n, c, hqq, ho⟩ hgr hr
  have hne : ∀ k, k < Wb.heap.size → some k ≠ row := fun k hk e => by have := (hr k e.symm).1; omega
  refine ⟨hb.grown hgr (Nat.le_trans hw hs) (fun k e => Nat.le_trans hw (hr k e).1), Nat.le_trans hs hgr.size, (hgr.block gb (by omega) (hne _ hg)).trans hc, A, n, c, (hgr.block q (by omega) (hne _ hq)).trans hqq, ho.other hgr ?_⟩
  intro ad e er
  obtain ⟨_, ob, h1, h2⟩ := hr _ er.symm
  rcases ho.2 with ⟨e1, _⟩ | ⟨g, cap, cur, e1, _, e2, _⟩
  · rw [e] at e1; cases e1
  · rw [e] at e1
    have : ad = ⟨g, 0, none⟩ := by injection e1 with e3; injection e3
    rw [this, e2] at h1
    cases h1
    cases h2
theorem own_ne {E : TypeId} {w : World} {lo n c r : Nat} {A : Option Addr} {xs : List Int} {o : Obj} (ho : OwnI E w lo A n c xs) (h : w.heap[r]? = some o) (hc : o.isCells = false) : ∀ ad, A = some ad → some ad.block ≠ some r := by
  intro ad e er
  rcases ho.2 with ⟨e1, _⟩ | ⟨g, cap, cur, e1, _, e2, _⟩
  · rw [e] at e1; cases e1
  · rw [e] at e1
    have e5 : ad = ⟨g, 0, none⟩ := by injection e1 with e3; injection e3
    have e6 : g = r := by rw [e5] at er; simpa using er
    rw [e6, h] at e2
    injection e2 with e7
    rw [e7] at hc
    cases hc
theorem gl_get {W H a b x : Int} {xs pre : List Int} (h0 : 0 ≤ x) (h1 : x < 64) (hx : x ∈ pre) : (words (gl W H xs a b pre)).toArray[1 + x.toNat]? = some (.int .u64 ((nearS W H xs a b x : Nat) : Int)) := by
  rw [List.getElem?_toArray, words, List.getElem?_map, gl, show 1 + x.toNat = x.toNat + 1 by omega, List.getElem?_cons_succ, List.getElem?_map, List.getElem?_range (by omega)]
  simp [show ((x.toNat : Nat) : Int) = x by omega, hx]
theorem leaps_pop {W H a b x : Int} {xs : List Int} (h : ∀ y ∈ leapsL W H xs a b x, 0 ≤ y ∧ y < 64) : popN 64 (nearS W H xs a b x) = (leapsL W H xs a b x).length :=
  (pop_walk h).2 (((cellsL_rise W H xs).filter _).imp (fun h => by omega))

end Go.Proofs.YtnmmgalidkambaaGreatDoor
