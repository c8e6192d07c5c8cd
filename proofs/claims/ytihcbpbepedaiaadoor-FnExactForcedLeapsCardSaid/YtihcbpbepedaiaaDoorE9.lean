/-
  Contracts: isForced; ForcedLeaps in plain terms.
-/
import Derived.Test.YtihcbpbepedaiaaDoorE5
import Derived.Test.YtihcbpbepedaiaaDoorE8
import Derived.Test.YtihcbpbepedaiaaDoorP6
namespace Go.Proofs.YtihcbpbepedaiaaDoor
open Go.RowKit Go.Shelf
attribute [local go_sem] Oper.semAt_some

def forcedB (W H : Int) (xs : List Int) (a b c : Int) : Bool := decide ((leapsL W H xs a b c).length = 2)

set_option maxRecDepth 100000 in
set_option maxHeartbeats 1000000 in
theorem isForced_any (W H : Int) (xs : List Int) (a b x : Int) (w : World) (hg : goodB W H xs = true) (hx : x ∈ cellsL W H xs) :
    Calls Tryd.prog 32 #[.agg (words (gl W H xs a b (cellsL W H xs))).toArray, .int .i64 x] w fun e w' => e = .returned (.bool (forcedB W H xs a b x)) ∧ Below w.heap.size w w' := by
  have hcl : ∀ y ∈ cellsL W H xs, 0 ≤ y ∧ y < 64 := fun y hy => by
    have h1 := (hasB_iff.1 (cellsL_mem.1 hy)).1
    obtain ⟨hW, hH, _, _⟩ := goodB_iff.1 hg
    have := cells_le hW hH
    omega
  have h0x : 0 ≤ x := (hcl x hx).1
  have h1x : x < 64 := (hcl x hx).2
  have hlb : ∀ y ∈ leapsL W H xs a b x, 0 ≤ y ∧ y < 64 := fun y hy => hcl y (List.mem_filter.1 hy).1
  have hpop := leaps_pop hlb
  refine (callsIn_wide (n := 5)).1 ?_
  refine callsIn_of_wp_marks Tryd.func32 rfl trivial ?_ rfl
  simp only [Tryd.ntmps32, List.size_toArray, List.length_cons, List.length_nil, Nat.reduceAdd, Nat.reduceSub, Array.replicate_succ, Array.replicate_zero, List.push_toArray, List.append_toArray, List.nil_append, List.cons_append]
  have hget : (words (gl W H xs a b (cellsL W H xs)))[1 + x.toNat]? = some (.int .u64 ((nearS W H xs a b x : Nat) : Int)) := by
    have := gl_get (W := W) (H := H) (a := a) (b := b) (xs := xs) h0x h1x hx
    rwa [List.getElem?_toArray] at this
  have hS := size_any (nearS W H xs a b x) (set_lt hlb) (w.alloc (.cells (words (gl W H xs a b (cellsL W H xs))).toArray 55))
  rw [hpop] at hS
  clear hcl hpop hlb
  gi_wp2
  refine ⟨trivial, (callsIn_wide.2 hS).mono ?_⟩
  rintro e w2 ⟨rfl, hb⟩
  gi_wp2
  refine ⟨_, results_tmp rfl _ _ _, ?_, below_box hb⟩
  show Ending.returned (.bool (decide (((leapsL W H xs a b x).length : Int) = 2))) = _
  rw [forcedB, show decide (((leapsL W H xs a b x).length : Int) = 2) = decide ((leapsL W H xs a b x).length = 2) from decide_eq_decide.2 (by omega)]

/-- The leaps that the cells of pre (all of them) and of a last one's first neighbours pre2 give. -/
def pickB (W H : Int) (xs : List Int) (a b c d : Int) : Bool := decide (c < d) && (forcedB W H xs a b c || forcedB W H xs a b d)
def rowF (W H : Int) (xs : List Int) (a b c : Int) (ds : List Int) : List (List Int) := (ds.filter (pickB W H xs a b c)).map fun d => [c, d]
def forcedL (W H : Int) (xs : List Int) (a b : Int) (cs : List Int) : List (List Int) := cs.flatMap fun c => rowF W H xs a b c (leapsL W H xs a b c)
def forcedV (W H : Int) (xs : List Int) (a b : Int) : List (List Int) := if twoV W H xs a b then forcedL W H xs a b (cellsL W H xs) else []

end Go.Proofs.YtihcbpbepedaiaaDoor
