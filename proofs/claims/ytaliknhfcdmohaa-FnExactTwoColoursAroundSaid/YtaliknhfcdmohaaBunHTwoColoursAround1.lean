/-
  A map from ints whose keys are known; slices.Sorted(maps.Keys(on)): the cells that are there.
  Cells picked by their distances, from arrays of 144: cellsWithin, reached.
  Parts, in plain terms: the first cell that no part has begins the next one.
  Contracts: the parts, in the program.
-/
import Derived.Test.YtaliknhfcdmohaaT2a
import Derived.Test.YtaliknhfcdmohaaIter
import Derived.Test.YtaliknhfcdmohaaShelf
import Derived.Maps.OwnSet
import Derived.TacticsInMore
import Derived.Test.YtaliknhfcdmohaaT9c
import Derived.Test.YtaliknhfcdmohaaQ4
import Derived.Test.YtaliknhfcdmohaaP0
namespace Go.Proofs.Ytaliknhfcdmohaa
open Go.RowKit Go.Maps Go.Sort Go.Shelf

/-- As MapI; ks tells which keys there are. -/
def MapK (P : Program) (k : TypeId) (w : World) (b n : Nat) (z : Value) (f : Int → Value) (ks : Int → Bool) : Prop :=
  ∃ D : DataW Value, w.ownsMap P k rawR b n D ∧ IsMap D ∧ (∀ x, D.atKey (.int .i64 x) (.held z) = .held (f x)) ∧ ∀ x, has D (.int .i64 x) = ks x

section
variable {P : Program} {k e t : TypeId} {w w' : World} {b n : Nat} {z : Value} {f : Int → Value} {ks : Int → Bool}
theorem MapK.map (h : MapK P k w b n z f ks) : MapI P k w b n z f := by obtain ⟨D, h1, h2, h3, _⟩ := h; exact ⟨D, h1, h2, h3⟩
theorem MapK.made (P : Program) (k : TypeId) (w : World) (z : Value) : MapK P k (w.alloc (.map #[] 0)) w.heap.size 0 z (fun _ => z) (fun _ => false) :=
  ⟨_, World.ownsMap_made _ _ _ _, isMap_empty, fun _ => rfl, fun _ => rfl⟩
theorem MapK.lt (h : MapK P k w b n z f ks) : b < w.heap.size := h.map.lt
theorem MapK.other {row : Option Nat} (h : MapK P k w b n z f ks) (hg : w.grownBy w' row) (hne : some b ≠ row) : MapK P k w' b n z f ks := by
  obtain ⟨D, h1, h2, h3⟩ := h
  exact ⟨D, h1.kept hg hne, h2, h3⟩
theorem MapK.keep (h : MapK P k w b n z f ks) (hb : Below w.heap.size w w') : MapK P k w' b n z f ks := h.other (grown_of_below hb none) (by simp)
theorem wpList_updateK {ops : Array Oper} {rest : List Oper} {o : Oper} {a : Act} {Q : Exit → Act → World → Prop}
    (hg : o.guard = none) (m x v : Operand) (hop : o.op = Op.mapUpdate t m x v) (hk : P.underlying k = some (.int .i64)) (ht : P.underlying t = some (.map k e))
    (hm : a.eval m = .map (some b)) (hown : MapK P k w b n z f ks) (hn : n < 1000000) (q : Int) (val : Value) (hx : a.eval x = .int .i64 q) (hv : a.eval v = val) (hq : (Lit.int .i64 q).wf = true)
    (hK : ∀ w', MapK P k w' b (n + 1) z (fun y => if y = q then val else f y) (fun y => if y = q then true else ks y) → w.grownBy w' (some b) → wpList P ops Q rest (a.put o.dst undef) w') :
    wpList P ops Q (o :: rest) a w := by
  obtain ⟨D, h1, h2, h3, h4⟩ := hown
  refine wpList_mapUpdate_own w hg m x v t hop k e (int_keyed hk) ht rawR b n D hm h1 (by unfold maxLen; omega) _ _ (.int .i64 q) hx hv (keyOf_int_mk hk hq) (.held val) [] rfl ?_
  intro w' hw hgr
  refine hK w' ⟨_, hw, h2.put _ _, fun y => ?_, fun y => ?_⟩ hgr
  · show _ = DataW.held (if y = q then val else f y)
    by_cases e : y = q
    · subst e
      rw [if_pos rfl]
      exact atKey_put_same h2 (by trivial) _ _
    · rw [if_neg e, atKey_put_other (fun h => e (by injection h)) _ _]
      exact h3 y
  · show _ = (if y = q then true else ks y)
    by_cases e : y = q
    · subst e
      rw [if_pos rfl]
      exact has_put_same h2 (by trivial) _
    · rw [if_neg e, has_put_other (fun h => e (by injection h)) _]
      exact h4 y
/-- What sorted keys are. -/
theorem sorted_keys {D : DataW Value} {R : Value → Option (DataW Value × List MemPlace)} (hown : w.ownsMap P k R b n D) (hk : P.underlying k = some (.int .i64)) {cells : List Int} (hc : cells.Pairwise (· < ·)) (hm : ∀ x, has D (.int .i64 x) = decide (x ∈ cells)) {ss : List Int} (hp : ss.Perm (intKeys D)) :
    ss.mergeSort (fun x y => decide (x ≤ y)) = cells := by
  obtain ⟨es, hD, hpw, _⟩ := hown.entries (int_keyed hk)
  obtain ⟨es', hD', hko⟩ := hown.keysOf
  obtain rfl : es = es' := by rw [hD] at hD'; simpa using hD'
  subst hD
  have hq : cells.Perm (intKeys (.map es)) := perm_intKeys hpw (fun p hp => by obtain ⟨v, hv⟩ := hko p hp; obtain ⟨x, _, hx, _⟩ := Maps.keyOf_i64 hk hv; exact ⟨x, hx⟩) (hc.imp (fun h => by omega)) (fun x => by rw [hm]; simp)
  rw [show (ss.mergeSort fun x y => decide (x ≤ y)) = cells.mergeSort (fun x y => decide (x ≤ y)) from mergeSort_of_perm_i (hp.trans hq.symm)]
  exact List.mergeSort_of_pairwise (hc.imp (fun h => by simp; omega))
end

/-- As OnMap; the map has just the cells. -/
def OnMapK (w : World) (lo mb : Nat) (cells : List Int) (adj : Int → List Int) : Prop :=
  lo ≤ mb ∧ ∃ (n : Nat) (f : Int → Value), n ≤ 144 ∧ MapK Try.prog 3 w mb n (.slice none 0 0) f (fun x => decide (x ∈ cells)) ∧ ∀ x ∈ cells, RowAt w lo mb (f x) (adj x)
theorem OnMapK.on {w : World} {lo mb : Nat} {cells : List Int} {adj : Int → List Int} (h : OnMapK w lo mb cells adj) : OnMap w lo mb cells adj := by
  obtain ⟨h0, n, f, h1, h2, h3⟩ := h
  exact ⟨h0, n, f, h1, h2.map, h3⟩
theorem OnMapK.keep {w w' : World} {lo mb : Nat} {cells : List Int} {adj : Int → List Int} (h : OnMapK w lo mb cells adj) (hb : Below w.heap.size w w') : OnMapK w' lo mb cells adj := by
  obtain ⟨h0, n, f, h1, h2, h3⟩ := h
  exact ⟨h0, n, f, h1, h2.keep hb, fun x hx => (h3 x hx).keep hb⟩

theorem sortsInts (m : Nat) : AnyZI.SortsIn Try.prog Try.sortedA_ren Fence.wide m :=
  ⟨fun blk off cap ss W hH hblk hsz => callsIn_wide.2 (Try.slices_Sort_int blk off cap ss W hH hblk hsz),
   fun p cap W => callsIn_wide.2 (Try.slices_Sort_int_none p cap W)⟩

set_option maxRecDepth 100000 in
set_option maxHeartbeats 1000000 in
theorem cells_any (lo mb : Nat) (cells : List Int) (adj : Int → List Int) (w : World) (h : OnMapK w lo mb cells adj) (hc : cells.Pairwise (· < ·)) :
    Calls Try.prog 100 #[.map (some mb)] w fun e w' => ∃ A' n' c', e = .returned (.slice A' n' c') ∧ OwnI 3 w' w.heap.size A' n' c' cells ∧ Below w.heap.size w w' := by
  obtain ⟨_, nn, f, hn, ⟨D, hown, hD, _, hks⟩, _⟩ := h
  refine (callsIn_wide (n := 6)).1 ?_
  have hbl := hown.lt
  have hsz := hown.size_le
  have hmax : Maps.size D ≤ maxLen := by unfold maxLen; omega
  have hbytes : Maps.size D * 8 ≤ 140737488355328 := by omega
  have hseq : SeqGives Fence.wide 2 Try.prog 131 #[.pointer (some ⟨w.heap.size, 0, none⟩)] encZ (fun ss => ss.Perm (intKeys D)) (Maps.size D) (w.alloc (.cells #[.map (some mb)] 71)) :=
    AnyZI.keys_gives (ρ := Try.keysA_ren) { Try.keysA with } Fence.wide _ trivial rfl (by omega) w.heap.size mb nn D _ (by simp) (by simp) (by
      obtain ⟨es, clock, hb, Ft, hs, hD⟩ := hown
      exact ⟨es, clock, (Below.heap_alloc _ _ mb hbl).trans hb, Ft, hs, hD⟩)
  have cK : ∀ mb W, CallsIn Fence.wide 5 Try.prog 113 #[.map mb] W fun e w' => e = .returned (.func (.func 131) #[] #[.pointer (some ⟨W.heap.size, 0, none⟩)]) ∧ w' = W.alloc (.cells #[.map mb] 71) := fun mb W => AnyZI.keys_in Try.keysA Fence.wide 5 trivial rfl mb W
  have cS := AnyZI.sorted_in Try.sortedA Fence.wide 5 trivial trivial trivial trivial rfl (by omega) (sortsInts _) (enters_of Try.func95 (by kernel_rfl) rfl) 131 #[.pointer (some ⟨w.heap.size, 0, none⟩)] trivial (enters_of Try.func131 (by kernel_rfl) rfl) _ _ hmax hbytes _ hseq
  change CallsIn _ _ Try.prog 112 _ _ _ at cS
  have hfK : Fence.wide.fn 113 := trivial
  have hfS : Fence.wide.fn 112 := trivial
  refine callsIn_of_wp Try.func100 rfl trivial ?_ rfl
  simp only [Try.ntmps100, List.size_toArray, List.length_cons, List.length_nil, Nat.reduceAdd, Nat.reduceSub, Array.replicate_succ, Array.replicate_zero, List.push_toArray, List.append_toArray, List.nil_append, List.cons_append]
  gi_wp2_with (first
    | (gi_at_call 113; refine (cK _ _).mono ?_; rintro e w' ⟨rfl, rfl⟩)
    | (gi_at_call 112; refine cS.mono ?_; rintro e w' ⟨v, ss, rfl, hS, hrow, hnil, hb⟩))
  go_ret
  rw [sorted_keys hown Try.underlying3 hc hks hS] at hrow
  have hlen : ss.length = cells.length := by have := hrow.1; simpa using this.symm
  rw [hlen] at hrow
  have hB : Below w.heap.size w w' := ((Below.refl _ w).alloc (Nat.le_refl _) _).trans (hb.mono (by simp))
  rcases hrow.2 with ⟨rfl, hz⟩ | ⟨g, cap, cur, rfl, _⟩
  · exact ⟨none, 0, 0, rfl, by rw [hz] at hrow; exact ownsRow_base_a hrow (by simp), hB⟩
  · exact ⟨_, _, _, rfl, ownsRow_base_a hrow (by simp), hB⟩

end Go.Proofs.Ytaliknhfcdmohaa

namespace Go.Proofs.Ytaliknhfcdmohaa
open Go.RowKit

/-- Whether place i of the list has a distance of at most q. -/
def nearB (L : List Int) (q : Int) (i : Nat) : Bool := inB (L.getD i (-1)) 0 q
theorem near_in {L : List Int} {q x : Int} {i : Nat} (h : L[i]? = some x) : nearB L q i = inB x 0 q := by rw [nearB, List.getD_eq_getElem?_getD, h]; rfl
theorem getD_pad (L : List Int) (m i : Nat) : (L ++ List.replicate m (-1)).getD i (-1) = L.getD i (-1) := by
  rw [List.getD_eq_getElem?_getD, List.getD_eq_getElem?_getD]
  rcases Nat.lt_or_ge i L.length with h | h
  · rw [List.getElem?_append_left h]
  · rw [List.getElem?_append_right h, List.getElem?_eq_none h, List.getElem?_replicate]
    split <;> rfl

set_option maxRecDepth 100000 in
set_option maxHeartbeats 2000000 in
theorem cellsWithin_any (L : List Int) (h64 : L.length = 144) (hb0 : ∀ x ∈ L, -1 ≤ x ∧ x ≤ 144) (q : Int) (w : World) :
    Calls Try.prog 114 #[.agg (L.map (Value.int .i64)).toArray, .int .i64 q] w fun e w' => ∃ A' n' c', e = .returned (.slice A' n' c') ∧ OwnI 3 w' w.heap.size A' n' c' (selTo (nearB L q) 144) ∧ Below w.heap.size w w' := by
  obtain ⟨i0, hi, hz0, hz1, hz2⟩ := info_parts infoI
  have HI := Lib.hid hi; have HZ0 := Lib.hid hz0; have HZ1 := Lib.hid hz1; have HZ2 := Lib.hid hz2
  clear hi hz0 hz1 hz2
  have HL := Lib.hid h64; have HB0 := Lib.hid hb0
  obtain ⟨W1, hW1⟩ : ∃ W1, W1 = w.alloc (.cells (L.map (Value.int .i64)).toArray 75) := ⟨_, rfl⟩
  have hrg := range_laid w L 75
  have HIN := Lib.hid (show (Try.prog.info? 75).map (·.size) = some (L.map (Value.int .i64)).length from infoD.trans (by rw [List.length_map, h64]))
  have hsz : W1.heap.size = w.heap.size + 1 := by rw [hW1]; simp
  have B := Lib.hid (show Below w.heap.size w W1 by rw [hW1]; exact below_new (Below.refl _ _) _)
  have hix := fun (k : Nat) (hk : k < 144) (x : Int) (hx : L[k]? = some x) (w' : World) => run_farK L h64 k hk x hx w'
  obtain ⟨V, hV⟩ : ∃ V, V = L.map (Value.int .i64) := ⟨_, rfl⟩
  rw [← hV] at hW1 hrg HIN hix ⊢
  have HRG := Lib.hid hrg
  have HIX := Lib.hid hix
  clear hrg h64 hb0 hix hV
  go_enter Try.func114, Try.ntmps114
  go_wp2_with (refine wpList_load_mid rfl 75 (.tmp 2) rfl w.heap.size 0 rfl V _ HRG.out Try.underlying75 rfl HIN.out ?_)
  rw [← hW1]
  clear hW1 HRG
  go_loopw [5, 9] (fun v i wr => ∃ (k n' c' : Nat) (A' : Option Addr), k ≤ 144 ∧ i = .int .i64 k ∧ v = .slice A' n' c' ∧ OwnI 3 wr W1.heap.size A' n' c' (selTo (nearB L q) k) ∧ Below W1.heap.size W1 wr) (fun _ i _ => 144 - (intOf i).toNat)
  case atStart => exact ⟨0, 0, 0, none, by omega, rfl, rfl, OwnI.none_ _ _ _, Below.refl _ _⟩
  case round =>
    obtain ⟨k, n', c', A', hk, rfl, rfl, hown, hbw⟩ := hrel
    have hbsz := hbw.size
    by_cases hlt : k < 144
    · obtain ⟨x, hx⟩ : ∃ x, L[k]? = some x := ⟨_, List.getElem?_eq_getElem (show k < L.length by have := HL.out; omega)⟩
      have hxb := HB0.out x (List.mem_of_getElem? hx)
      have hix := HIX.out k hlt x hx
      have hn' : n' ≤ 144 := by have := selTo_len (nearB L q) k; have := hown.len; omega
      have hnb : nearB L q k = inB x 0 q := near_in hx
      have HX := Lib.hid hx; have HO := Lib.hid hown; have HB := Lib.hid hbw; have HNB := Lib.hid hnb
      clear hx hown hbw hnb
      by_cases hm : x = -1
      · subst hm
        go_wp2
        go_roundw
        case rel => exact ⟨k + 1, n', c', A', by omega, by go_num, rfl, by rw [selTo_no (by rw [HNB.out]; rfl)]; exact HO.out, HB.out⟩
        case measure => simp [intOf]; omega
      · have hm' : (x != -1) = true := by simpa using hm
        by_cases hq : x ≤ q
        · go_wp2_with (at_builtin; refine wpList_app1 rfl (.tmp 20) (.tmp 22) 33 3 rfl i0 Try.underlying33 HI.out HZ0.out HZ1.out HZ2.out W1.heap.size A' n' c' (selTo (nearB L q) k) (k : Int) rfl HO.out rfl (by omega) hbsz ?_; intro A2 c2 w2 hown2 hb2')
          have HO2 := Lib.hid hown2; have HB2 := Lib.hid (HB.out.trans hb2')
          clear hown2 hb2'
          go_wp2
          go_roundw
          case rel => exact ⟨k + 1, n' + 1, c2, A2, by omega, by go_num, rfl, by rw [selTo_yes (by rw [HNB.out, inB]; simp; omega)]; exact HO2.out, HB2.out⟩
          case measure => simp [intOf]; omega
        · go_wp2
          go_roundw
          case rel => exact ⟨k + 1, n', c', A', by omega, by go_num, rfl, by rw [selTo_no (by rw [HNB.out, inB]; simp; omega)]; exact HO.out, HB.out⟩
          case measure => simp [intOf]; omega
    · obtain rfl : k = 144 := by omega
      have HO := Lib.hid (hown.lower (show w.heap.size ≤ W1.heap.size by omega)); have HB := Lib.hid (below_next B.out hbw)
      clear hown hbw
      go_wp2
      go_ret
      exact ⟨_, _, _, rfl, HO.out, HB.out⟩


theorem has_max : ∀ {L : List Int}, L ≠ [] → ∃ m ∈ L, ∀ x ∈ L, x ≤ m
  | [], h => absurd rfl h
  | [a], _ => ⟨a, by simp, by simp⟩
  | a :: b :: t, _ => by
    obtain ⟨m, hm, h⟩ := has_max (L := b :: t) (by simp)
    by_cases c : a ≤ m
    · exact ⟨m, List.mem_cons_of_mem _ hm, fun x hx => by
        rcases List.mem_cons.1 hx with rfl | hx
        · exact c
        · exact h x hx⟩
    · exact ⟨a, by simp, fun x hx => by
        rcases List.mem_cons.1 hx with rfl | hx
        · omega
        · have := h x hx; omega⟩
theorem le_maxOf {L : List Int} {x : Int} (h : x ∈ L) : x ≤ Go.Lib.maxOf L := by
  have hne : L ≠ [] := List.ne_nil_of_mem h
  obtain ⟨m, hm, hx⟩ := has_max hne
  rw [max_of hne hm hx]; exact hx x h
theorem near_max {L : List Int} : nearB L (Go.Lib.maxOf L) = fun i => decide (0 ≤ L.getD i (-1)) := by
  funext i
  rw [nearB]
  rcases Nat.lt_or_ge i L.length with h | h
  · have hm : L.getD i (-1) ∈ L := by rw [List.getD_eq_getElem?_getD, List.getElem?_eq_getElem h]; exact List.getElem_mem h
    have := le_maxOf hm
    rw [inB, Bool.eq_iff_iff, decide_eq_true_eq, decide_eq_true_eq]; omega
  · rw [List.getD_eq_getElem?_getD, List.getElem?_eq_none h, inB]; simp
/-- The cells that have a distance. -/
def reachL (L : List Int) : List Int := selTo (fun i => decide (0 ≤ L.getD i (-1))) 144

set_option maxRecDepth 100000 in
set_option maxHeartbeats 1000000 in
theorem reached_any (L : List Int) (h64 : L.length = 144) (hb0 : ∀ x ∈ L, -1 ≤ x ∧ x ≤ 144) (w : World) :
    Calls Try.prog 101 #[.agg (L.map (Value.int .i64)).toArray] w fun e w' => ∃ A' n' c', e = .returned (.slice A' n' c') ∧ OwnI 3 w' w.heap.size A' n' c' (reachL L) ∧ Below w.heap.size w w' := by
  have HG := Lib.hid (fun w' => greatest_any L h64 w')
  have HC := Lib.hid (fun w' => cellsWithin_any L h64 hb0 (Go.Lib.maxOf L) w')
  rw [near_max] at HC
  have HR := Lib.hid (show selTo (fun i => decide (0 ≤ L.getD i (-1))) 144 = reachL L from rfl)
  rw [HR.out] at HC
  have HIN := Lib.hid (show (Try.prog.info? 75).map (·.size) = some (L.map (Value.int .i64)).length from infoD.trans (by rw [List.length_map, h64]))
  have HRL := Lib.hid (range_laid w L 75)
  obtain ⟨V, hV⟩ : ∃ V, V = L.map (Value.int .i64) := ⟨_, rfl⟩
  rw [← hV] at HG HC HIN HRL ⊢
  obtain ⟨m, hm⟩ : ∃ m, m = Go.Lib.maxOf L := ⟨_, rfl⟩
  rw [← hm] at HG HC
  obtain ⟨W3, hW3⟩ : ∃ W3, W3 = w.alloc (.cells V.toArray 75) := ⟨_, rfl⟩
  rw [← hW3] at HRL
  have B := Lib.hid (show Below w.heap.size w W3 by rw [hW3]; exact below_new (Below.refl _ _) _)
  have hs3 : w.heap.size < W3.heap.size := by rw [hW3]; simp
  obtain ⟨gx, hgx⟩ : ∃ gx, gx = w.heap.size := ⟨_, rfl⟩
  rw [← hgx] at HRL
  have hrg := HRL.out
  clear h64 hb0 hV hm HR
  go_enter Try.func101, Try.ntmps101
  go_upto_region 1 with fail
  rw [← hW3, ← hgx]
  rw [← hgx] at hs3
  clear hW3 hgx
  refine wp_region_held_drew (S := fun w' => w'.rangeAt gx 0 V ∧ True) (by kernel_rfl) ?_ (fun hHeld => ?_)
  · (try dsimp only)
    exact ⟨hrg, trivial⟩
  refine wpAnyH_take (i := 0) (oi := ⟨_, _, _, _, _, _⟩) (v := .agg V.toArray) rfl (by kernel_rfl) (by kernel_rfl) (by kernel_rfl) (fun _ _ _ h => h) (yieldsIf_load_mid (by rfl) 75 (.tmp 1) rfl gx 0 rfl V _ (fun _ hSw => hSw.1) Try.underlying75 rfl HIN.out) (by assumption) ?_
  (try simp only [Act.put, List.setIfInBounds_toArray, List.set_cons_zero, List.set_cons_succ])
  refine wpAnyH_take (i := 1) (oi := ⟨_, _, _, _, _, _⟩) (v := .agg V.toArray) rfl (by kernel_rfl) (by kernel_rfl) (by kernel_rfl) (fun _ _ _ h => h) (yieldsIf_load_mid (by rfl) 75 (.tmp 1) rfl gx 0 rfl V _ (fun _ hSw => hSw.1) Try.underlying75 rfl HIN.out) (by assumption) ?_
  (try simp only [Act.put, List.setIfInBounds_toArray, List.set_cons_zero, List.set_cons_succ])
  refine wpAnyH_ready (rs := [2]) (by kernel_rfl) (by simp) ?_
  refine AllReadyH.cons (o := ⟨_, _, _, _, _, _⟩) rfl (fun K hK => ?_) AllReadyH.nil
  go_simp
  (go_at_call 99; refine (HG.out _).mono ?_; rintro e wv ⟨rfl, hb⟩; (repeat (first | replace hb := below_undrew hb | replace hb := below_undrewN hb)); replace hrg := range_keep hrg hs3 hb; replace hs3 := lt_keep hs3 hb; replace B := Lib.hid (below_next B.out hb); clear hb)
  (try go_wp2_with fail)
  refine hK.out _ _ ?_ (fun hHeld => ?_)
  · (try dsimp only)
    exact ⟨hrg, trivial⟩
  clear hK K
  (try simp only [Act.put, List.setIfInBounds_toArray, List.set_cons_zero, List.set_cons_succ])
  refine wpAnyH_ready (rs := [3]) (by kernel_rfl) (by simp) ?_
  refine AllReadyH.cons (o := ⟨_, _, _, _, _, _⟩) rfl (fun K hK => ?_) AllReadyH.nil
  go_simp
  (go_at_call 114; refine (HC.out _).mono ?_; rintro e wx ⟨A', n', c', rfl, hown, hb⟩; (repeat (first | replace hb := below_undrew hb | replace hb := below_undrewN hb)); have O := Lib.hid (hown.lower B.out.size); replace hrg := range_keep hrg hs3 hb; replace hs3 := lt_keep hs3 hb; replace B := Lib.hid (below_next B.out hb); clear hb; clear hown)
  (try go_wp2_with fail)
  refine hK.out _ _ ?_ (fun hHeld => ?_)
  · (try dsimp only)
    exact ⟨hrg, trivial⟩
  clear hK K
  (try simp only [Act.put, List.setIfInBounds_toArray, List.set_cons_zero, List.set_cons_succ])
  refine wpAnyH_take (i := 4) (oi := ⟨_, _, _, _, _, _⟩) (v := ?_) rfl (by kernel_rfl) (by kernel_rfl) (by kernel_rfl) (fun _ _ _ h => h) (Or.inl ⟨by rfl, ?_⟩) (by assumption) ?_
  rotate_left
  · intro w hSw
    (try dsimp only at hSw)
    go_simp
    (try with_reducible rfl)
  (try simp only [Act.put, List.setIfInBounds_toArray, List.set_cons_zero, List.set_cons_succ])
  refine wpAnyH_done (by kernel_rfl) ?_ _
  go_wp2
  go_ret
  exact ⟨_, _, _, rfl, O.out, B.out⟩
end Go.Proofs.Ytaliknhfcdmohaa

namespace Go.Proofs.Ytaliknhfcdmohaa
open Go.RowKit

def inParts (ps : List (List Int)) (x : Int) : Bool := ps.any fun p => p.contains x
def partStep (P : Int → List Int) (ps : List (List Int)) (c : Int) : List (List Int) := if inParts ps c = true then ps else ps ++ [P c]
def gTo (P : Int → List Int) (cells : List Int) (k : Nat) : List (List Int) := (cells.take k).foldl (partStep P) []
def gAll (P : Int → List Int) (cells : List Int) : List (List Int) := cells.foldl (partStep P) []
theorem inParts_app (ps : List (List Int)) (p : List Int) (x : Int) : inParts (ps ++ [p]) x = (inParts ps x || p.contains x) := by simp [inParts]
theorem gTo_yes {P : Int → List Int} {cells : List Int} {c : Int} {k : Nat} (hc : cells[k]? = some c) (h : inParts (gTo P cells k) c = true) : gTo P cells (k + 1) = gTo P cells k := by
  rw [gTo, take_foldl _ hc, partStep]; exact if_pos h
theorem gTo_no {P : Int → List Int} {cells : List Int} {c : Int} {k : Nat} (hc : cells[k]? = some c) (h : inParts (gTo P cells k) c = false) : gTo P cells (k + 1) = gTo P cells k ++ [P c] := by
  rw [gTo, take_foldl _ hc, partStep]; exact if_neg (by rw [show inParts ((cells.take k).foldl (partStep P) []) c = false from h]; simp)
theorem gTo_len (P : Int → List Int) (cells : List Int) : ∀ k, (gTo P cells k).length ≤ k
  | 0 => by simp [gTo]
  | k + 1 => by
    have ih := gTo_len P cells k
    cases hc : cells[k]? with
    | none =>
      have e : gTo P cells (k + 1) = gTo P cells k := by rw [gTo, gTo, List.take_add_one, hc]; simp
      rw [e]; omega
    | some c =>
      cases h : inParts (gTo P cells k) c with
      | true => rw [gTo_yes hc h]; omega
      | false => rw [gTo_no hc h, List.length_append]; simp; omega
theorem sel_contains {f : Nat → Bool} {N i : Nat} (h : i < N) : (selTo f N).contains (i : Int) = f i := by
  cases hf : f i with
  | true => rw [List.contains_iff_mem]; exact selTo_mem.2 ⟨i, h, hf, rfl⟩
  | false =>
    rw [← Bool.not_eq_true, List.contains_iff_mem]
    intro hm
    obtain ⟨j, _, hj, e⟩ := selTo_mem.1 hm
    rw [show j = i by omega, hf] at hj; cases hj
theorem take_contains {p : List Int} {j : Nat} {y x : Int} (hy : p[j]? = some y) : (p.take (j + 1)).contains x = (if x = y then true else (p.take j).contains x) := by
  rw [List.take_add_one, hy]
  by_cases e : x = y
  · subst e; simp
  · simp [e]

end Go.Proofs.Ytaliknhfcdmohaa

namespace Go.Proofs.Ytaliknhfcdmohaa
open Go.RowKit

theorem zero_bool : ∀ w, (zeroValue 4).run Try.prog w = .ok (.bool false) w := fun _ => by kernel_rfl
def partG (adj : Int → List Int) (c : Int) : List Int := reachL (farL adj 144 c)
theorem partG_len (adj : Int → List Int) (c : Int) : (partG adj c).length ≤ 144 := by unfold partG reachL; exact selTo_len _ _
theorem partG_in {adj : Int → List Int} {c y : Int} (h : y ∈ partG adj c) : 0 ≤ y ∧ y ≤ 144 := by
  unfold partG reachL at h
  obtain ⟨i, hi, _, e⟩ := selTo_mem.1 h
  omega
theorem farG_bd {cells : List Int} {adj : Int → List Int} {c : Int} (hcl : ∀ x ∈ cells, 0 ≤ x ∧ x < 144) (hadj : ∀ x, ∀ y ∈ adj x, y ∈ cells) (hc : c ∈ cells) : (farL adj 144 c).length = 144 ∧ ∀ x ∈ farL adj 144 c, -1 ≤ x ∧ x ≤ 144 := by
  have h := bfs_ok (adj := adj) (N := 144) (start := c) (by have := hcl c hc; omega) (fun c _ x hx => by have := hcl x (hadj c x hx); omega) 144
  refine ⟨h.len, fun x hx => ?_⟩
  obtain ⟨i, hi, rfl⟩ := List.getElem_of_mem hx
  have := h.lo i _ (List.getElem?_eq_getElem hi)
  omega

set_option maxRecDepth 100000 in
set_option maxHeartbeats 4000000 in
theorem parts_any (cells : List Int) (adj : Int → List Int) (lo0 mo : Nat) (w : World) (hom : OnMapK w lo0 mo cells adj) (hc : cells.Pairwise (· < ·)) (hcl : ∀ x ∈ cells, 0 ≤ x ∧ x < 144) (hadj : ∀ x, ∀ y ∈ adj x, y ∈ cells) (hn : cells.length ≤ 144) :
    Calls Try.prog 71 #[.map (some mo)] w fun e w' => ∃ A' n' c' top, e = .returned (.slice A' n' c') ∧ PartsAt w' w.heap.size top A' n' c' (gAll (partG adj) cells) ∧ Below w.heap.size w w' := by
  have HOM := Lib.hid hom; have HN := Lib.hid hn; have HC := Lib.hid hc; have HCL := Lib.hid hcl; have HADJ := Lib.hid hadj
  clear hom hc hcl hadj hn
  obtain ⟨W2, hW2⟩ : ∃ W2, W2 = w.alloc (.map #[] 0) := ⟨_, rfl⟩
  have hsz : W2.heap.size = w.heap.size + 1 := by rw [hW2]; simp
  have B := Lib.hid (show Below w.heap.size w W2 by rw [hW2]; exact below_new (Below.refl _ _) _)
  have MP := Lib.hid (show MapI Try.prog 3 W2 w.heap.size 0 (.bool false) (fun _ => .bool false) by rw [hW2]; exact MapI.made _ _ _ _)
  have hmm := @run_makeMap Try.prog
  go_enter Try.func71, Try.ntmps71
  go_wp2_with fail
  rw [← hW2]
  obtain ⟨mb, hmb⟩ : ∃ mb, mb = w.heap.size := ⟨_, rfl⟩
  rw [← hmb] at MP ⊢
  have hmb2 : mb < W2.heap.size := by omega
  have HMB := Lib.hid hmb
  clear hW2 hmm hmb hsz
  refine (cells_any lo0 mo cells adj _ (HOM.out.keep B.out) HC.out).mono ?_
  rintro e ws ⟨A1, n1, c1, rfl, hst, hb⟩
  replace MP := Lib.hid (MP.out.keep hb)
  have hs1 := hb.size
  have hms : mb < ws.heap.size := lt_keep hmb2 hb
  replace B := Lib.hid (below_next B.out hb)
  have hBs := B.out.size
  have ST := Lib.hid hst.rd
  have SL := Lib.hid hst.len
  have n8 : n1 ≤ 144 := by have := hst.len; have := HN.out; omega
  have hA1 : Hid (∀ y, A1 = some y → y.block ≠ mb) := Lib.hid (fun y hy => by
    subst hy
    exact map_apart hst MP.out)
  have n9 := hst.rd.2.1
  clear hst hb hmb2
  go_wp2
  go_loopw [3, 14] (fun v i wr => ∃ (k n' c' top m : Nat) (A' : Option Addr) (f : Int → Value), k ≤ n1 ∧ i = .int .i64 k ∧ v = .slice A' n' c' ∧ PartsAt wr ws.heap.size top A' n' c' (gTo (partG adj) cells k) ∧ top ≤ wr.heap.size ∧ m ≤ 144 * k ∧ MapI Try.prog 3 wr mb m (.bool false) f ∧ (∀ x, f x = .bool (inParts (gTo (partG adj) cells k) x)) ∧ ws.grownBy wr (some mb)) (fun _ i _ => n1 - (intOf i).toNat)
  case atStart => exact ⟨0, 0, 0, 0, 0, none, _, by omega, rfl, rfl, PartsAt.none_ _ _ _, by omega, by omega, MP.out, fun x => rfl, grown_refl _ _⟩
  case round =>
    clear MP
    obtain ⟨k, n', c', top, m, A', f, hk, rfl, rfl, hpa, htop, hm, hmap, hf, hgw⟩ := hrel
    have hBw : Below w.heap.size w wr := B.out.trans (below_of_grown hgw hBs (fun g h => by injection h with h; have := HMB.out; omega))
    have hsw := hgw.size
    have hnp : n' ≤ 144 := by have := gTo_len (partG adj) cells k; have := hpa.len; omega
    have PA := Lib.hid hpa; have MA := Lib.hid hmap; have FF := Lib.hid hf
    by_cases hlt : k < n1
    · obtain ⟨bb, oo, x, rfl, hg1, hx, x0⟩ := ST.out.at_ hlt
      have hbm := hA1.out _ rfl
      simp only at hbm
      have hin := List.mem_of_getElem? hx
      have hxr := HCL.out _ hin
      obtain ⟨xn, rfl⟩ : ∃ xn : Nat, x = (xn : Int) := ⟨x.toNat, by omega⟩
      have hxn : xn < 144 := by omega
      have HX := Lib.hid hx; have HXI := Lib.hid hin
      replace x0 := hgw.cell x0 (by simp; omega)
      have HBW := Lib.hid hBw; have HGW := Lib.hid hgw
      have hlk := fun w' (h : MapI Try.prog 3 w' mb m (.bool false) f) => MapI.lookup (t := 106) (e := 4) h Try.underlying3 Try.underlying106 (zero_bool w') (wf_small (x := (xn : Int)) (by omega))
      have hl0 := hlk wr hmap
      rw [hf] at hl0
      clear hx hin hxr hgw hBw hpa hmap hf hlk
      cases hip : inParts (gTo (partG adj) cells k) (xn : Int) with
      | true =>
        rw [hip] at hl0
        have HIP := Lib.hid hip
        clear hip
        go_wp2
        go_roundw
        case rel =>
          have e := gTo_yes HX.out HIP.out
          exact ⟨k + 1, n', c', top, m, A', f, by omega, by go_num, rfl, by rw [e]; exact PA.out, htop, by omega, MA.out, by rw [e]; exact FF.out, HGW.out⟩
        case measure => simp [intOf]; omega
      | false =>
        rw [hip] at hl0
        have HIP := Lib.hid hip
        clear hip
        go_wp2_with fail
        clear hl0
        refine (distancesFrom_any lo0 mo cells adj xn _ (HOM.out.keep HBW.out).on (by omega) HXI.out HCL.out HADJ.out).mono ?_
        rintro e wu ⟨rfl, hb⟩
        obtain ⟨h64, hbd⟩ := farG_bd HCL.out HADJ.out HXI.out
        replace PA := Lib.hid (PA.out.keep hb); replace MA := Lib.hid (MA.out.keep hb)
        have htu := hb.size
        replace HGW := Lib.hid (grown_next HGW.out (grown_of_below hb (some mb)))
        clear hb
        go_wp2_with fail
        refine (reached_any _ h64 hbd _).mono ?_
        rintro e wv ⟨A9, n9', c9, rfl, own, hb⟩
        rw [show reachL (farL adj 144 (xn : Int)) = partG adj (xn : Int) from rfl] at own
        have hpn : Hid (∀ y, A9 = some y → top ≤ y.block ∧ y.block < wv.heap.size) := Lib.hid (fun y hy => by
          rcases own.form with ⟨h, _⟩ | ⟨g9, h, h2, h3, _⟩
          · rw [h] at hy; cases hy
          · rw [h] at hy; injection hy with hy; rw [← hy]; exact ⟨by show top ≤ g9; omega, h3⟩)
        replace PA := Lib.hid (PA.out.keep hb); replace MA := Lib.hid (MA.out.keep hb)
        have htv := hb.size
        replace HGW := Lib.hid (grown_next HGW.out (grown_of_below hb (some mb)))
        have OWN := Lib.hid (own.lower (show ws.heap.size ≤ wu.heap.size by omega))
        have PRD := Lib.hid own.rd
        have hp64 : n9' ≤ 144 := by have := partG_len adj (xn : Int); have := own.len; omega
        have hp9 := own.rd.2.1
        have hAm : Hid (∀ y, A9 = some y → y.block ≠ mb) := Lib.hid (fun y hy => by subst hy; exact map_apart own MA.out)
        have hbig : top ≤ wv.heap.size := by omega
        obtain ⟨p, hp⟩ : ∃ p, p = partG adj (xn : Int) := ⟨_, rfl⟩
        rw [← hp] at OWN PRD
        have HP := Lib.hid hp
        clear hb own hbd h64 hp x0
        go_wp2
        go_loopw [27] (fun i wr => ∃ (j m2 : Nat) (f2 : Int → Value), j ≤ n9' ∧ i = .int .i64 j ∧ m2 ≤ 144 * k + j ∧ MapI Try.prog 3 wr mb m2 (.bool false) f2 ∧ (∀ x, f2 x = .bool (inParts (gTo (partG adj) cells k) x || (p.take j).contains x)) ∧ wv.grownBy wr (some mb)) (fun i _ => n9' - (intOf i).toNat)
        case atStart => exact ⟨0, m, f, by omega, rfl, by omega, MA.out, fun x => by rw [FF.out x]; simp, grown_refl _ _⟩
        case round =>
          obtain ⟨j, m2, f2, hj, rfl, hm2, hmap, hf, hgx⟩ := hrel
          have hsx := hgx.size
          by_cases hjl : j < n9'
          · obtain ⟨b9, o9, y, rfl, hg9, hy, y0⟩ := PRD.out.at_ hjl
            have hbm9 := hAm.out _ rfl
            simp only at hbm9
            replace y0 := hgx.cell y0 (by simp; omega)
            have hyr : 0 ≤ y ∧ y ≤ 144 := partG_in (by have hm := List.mem_of_getElem? hy; rwa [HP.out] at hm)
            have HY := Lib.hid hy; have MB := Lib.hid hmap; have F2 := Lib.hid hf; have HGX := Lib.hid hgx
            have HYR := Lib.hid hyr
            clear hy hmap hf hgx hyr
            go_wp2_with (at_mapUpdate; refine wpList_update rfl (.tmp 31) (.tmp 32) (.const (.bool true)) rfl Try.underlying3 Try.underlying106 rfl MB.out (by omega) y (.bool true) rfl rfl (wf_small HYR.out) ?_; intro w5 hm5 hg5)
            have M5 := Lib.hid hm5; have G5 := Lib.hid (grown_next HGX.out hg5)
            clear hm5 hg5
            go_wp2
            go_roundw
            case rel => exact ⟨j + 1, m2 + 1, _, by omega, by go_num, by omega, M5.out, fun x => by
              show (if x = y then Value.bool true else f2 x) = _
              rw [take_contains HY.out, F2.out x]
              by_cases e : x = y
              · rw [if_pos e, if_pos e]; simp
              · rw [if_neg e, if_neg e], G5.out⟩
            case measure => simp [intOf]; omega
          · obtain rfl : j = n9' := by omega
            have PA8 := Lib.hid (PA.out.maps MA.out hgx)
            have OWN8 := Lib.hid (OWN.out.other hgx (fun y hy => by have := hAm.out y hy; simpa using this))
            have MB := Lib.hid hmap; have F2 := Lib.hid hf
            have HG8 := Lib.hid (grown_next HGW.out hgx)
            have hpt : p.take j = p := List.take_of_length_le (by have := OWN.out.len; omega)
            have HPT := Lib.hid hpt
            have hpn2 : Hid (∀ y, A9 = some y → top ≤ y.block) := Lib.hid (fun y hy => (hpn.out y hy).1)
            have htx : top ≤ wr.heap.size := by omega
            have hlo : ws.heap.size ≤ wr.heap.size := by omega
            clear hmap hf hgx hpt
            go_wp2_with (at_builtin; refine wpList_appS rfl (.tmp 34) (.tmp 36) rfl ws.heap.size top A' n' c' (gTo (partG adj) cells k) A9 j c9 p rfl PA8.out OWN8.out hpn2.out htx rfl (by omega) hlo ?_; intro A7 c7 w7 hpa7 hb7 kB kM kI)
            have PA7 := Lib.hid hpa7
            have M7 := Lib.hid (kM _ _ _ _ _ _ MB.out)
            have HG7 := Lib.hid (grown_below HG8.out hb7)
            have hs7 := hb7.size
            clear hpa7 hb7 kB kM kI
            go_wp2
            go_roundw
            case rel =>
              have e := gTo_no HX.out HIP.out
              rw [← HP.out] at e
              exact ⟨k + 1, n' + 1, c7, _, m2, A7, f2, by omega, by go_num, rfl, by rw [e]; exact PA7.out, hs7, by omega, M7.out, fun x => by rw [F2.out x, HPT.out, e, inParts_app], HG7.out⟩
            case measure => simp [intOf]; omega
    · obtain rfl : k = n1 := by omega
      have eP : gTo (partG adj) cells k = gAll (partG adj) cells := by rw [gTo, List.take_of_length_le (by have := SL.out; omega)]; rfl
      rw [eP] at PA
      have HBW := Lib.hid hBw
      clear hgw hBw hpa hmap hf MA FF
      go_wp2
      go_ret
      have hmb := HMB.out
      subst hmb
      exact ⟨_, _, _, _, rfl, PA.out.lower (by omega), HBW.out⟩

end Go.Proofs.Ytaliknhfcdmohaa
