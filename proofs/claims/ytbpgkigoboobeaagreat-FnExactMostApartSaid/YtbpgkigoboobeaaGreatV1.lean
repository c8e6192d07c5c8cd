/-
  Contracts: StepsOf.
  Contracts: StepsOf.
-/
import Derived.Test.YtbpgkigoboobeaaGreatP6
import Derived.Test.YtbpgkigoboobeaaGreatS4
namespace Go.Proofs.YtbpgkigoboobeaaGreat
open Go.RowKit

def pairL (p : Int × Int) : List Int := [p.1, p.2]
def stepsRow (a b x : Int) (j : Nat) : List (Int × Int) := (((List.range j).map fun i : Nat => (i : Int) - b).filter (stepB a b x)).map fun y => (x, y)
def stepsTo (a b : Int) (i : Nat) : List (Int × Int) := ((List.range i).map fun i : Nat => (i : Int) - b).flatMap fun x => stepsRow a b x (2 * b + 1).toNat
def stepsV (a b : Int) : List (List Int) := if leaperB a b = true then (stepsL a b).map pairL else []
theorem stepsTo_all (a b : Int) : stepsTo a b (2 * b + 1).toNat = stepsL a b := rfl
theorem stepsTo_succ (a b : Int) (i : Nat) : stepsTo a b (i + 1) = stepsTo a b i ++ stepsRow a b ((i : Int) - b) (2 * b + 1).toNat := by
  rw [stepsTo, List.range_succ, List.map_append, List.flatMap_append]; simp [stepsTo]
theorem stepsRow_yes {a b x : Int} {j : Nat} (h : stepB a b x ((j : Int) - b) = true) : stepsRow a b x (j + 1) = stepsRow a b x j ++ [(x, (j : Int) - b)] := by
  rw [stepsRow, List.range_succ, List.map_append, List.filter_append, List.map_append]; simp [stepsRow, h]
theorem stepsRow_no {a b x : Int} {j : Nat} (h : stepB a b x ((j : Int) - b) = false) : stepsRow a b x (j + 1) = stepsRow a b x j := by
  rw [stepsRow, List.range_succ, List.map_append, List.filter_append, List.map_append]; simp [stepsRow, h]
theorem stepsRow_len (a b x : Int) (j : Nat) : (stepsRow a b x j).length ≤ j := by
  have := List.length_filter_le (stepB a b x) ((List.range j).map fun i : Nat => (i : Int) - b)
  rw [stepsRow, List.length_map]
  simpa using this
theorem stepsTo_len (a b : Int) : ∀ i, (stepsTo a b i).length ≤ i * (2 * b + 1).toNat
  | 0 => by simp [stepsTo]
  | i + 1 => by
    have := stepsTo_len a b i
    have := stepsRow_len a b ((i : Int) - b) (2 * b + 1).toNat
    rw [stepsTo_succ, List.length_append, Nat.add_mul, Nat.one_mul]; omega
def intOf2 : Value → Int
  | .int _ n => n
  | _ => 0
theorem below_new2 {lo : Nat} {w : World} {o : Obj} (h : lo ≤ w.heap.size) : Below lo w (w.alloc o) := (Below.refl _ _).alloc h o
theorem wpList_appS2 {ops : Array Oper} {rest : List Oper} {o : Oper} {a : Act} {Q : Exit → Act → World → Prop} {w : World} (gx : Nat) (hgx : gx = w.heap.size) (hgd : o.guard = none) (s x : Operand)
    (ho : o.op = .call { callee := .builtin .append, args := #[s, x], argTypes := #[28, 28] }) (lo top : Nat) (A : Option Addr) (n c : Nat) (ps : List (List Int)) (A3 : Option Addr) (n3 c3 : Nat) (p : List Int)
    (hs : a.eval s = .slice A n c) (hown : PartsAt w lo top A n c ps) (hp : OwnI 3 w lo A3 n3 c3 p) (hpn : ∀ y, A3 = some y → top ≤ y.block) (htop : top ≤ w.heap.size)
    (hx : a.eval x = .slice (some ⟨gx, 0, none⟩) 1 1) (hn : n ≤ 100000) (hlo : lo ≤ w.heap.size)
    (h : ∀ A' c' w', PartsAt w' lo w.heap.size A' (n + 1) c' (ps ++ [p]) → Below lo w w' → wpList Tryz.prog ops Q rest (a.put o.dst (.slice A' (n + 1) c')) w') :
    wpList Tryz.prog ops Q (o :: rest) a (w.alloc (.cells #[.slice A3 n3 c3] 22)) := by
  subst hgx
  exact wpList_appS hgd s x ho lo top A n c ps A3 n3 c3 p hs hown hp hpn htop hx hn hlo (fun A' c' w' h1 h2 _ _ _ => h A' c' w' h1 h2)
/-- A row of two ints just laid. -/
theorem own_two (w : World) (x y : Int) (lo : Nat) (h : lo ≤ w.heap.size) : OwnI 3 (w.alloc (.cells #[.int .i64 x, .int .i64 y] 3)) lo (some ⟨w.heap.size, 0, none⟩) 2 2 [x, y] :=
  World.ownsRow_lit (base := lo) (e := 3) w (#[.int .i64 x, .int .i64 y] : Array Value) 2 (size := 1) h (by decide) rfl
theorem stepsV_small (a b : Int) : (stepsV a b).length ≤ 64 ∧ ∀ p ∈ stepsV a b, p.length ≤ 64 := by
  unfold stepsV
  split
  · rename_i h
    refine ⟨by rw [List.length_map]; have := stepsL_len h; omega, fun p hp => ?_⟩
    obtain ⟨q, _, rfl⟩ := List.mem_map.1 hp
    simp [pairL]
  · exact ⟨by simp, fun p hp => by simp at hp⟩

end Go.Proofs.YtbpgkigoboobeaaGreat

namespace Go.Proofs.YtbpgkigoboobeaaGreat
open Go.RowKit

end Go.Proofs.YtbpgkigoboobeaaGreat
