/-
  The store of an array of 144 ints into a block just laid.
-/
import Derived.Test.YtoangjjikmjkgaaT5a
import Derived.Test.YtoangjjikmjkgaaT9c
import Derived.Deep.WholeRow
import Derived.Great.BuildSlice
namespace Go.Proofs.Ytoangjjikmjkgaa
open Go.RowKit

theorem infoDs : (Try.prog.info? 57).map (·.size) = some 144 := by kernel_rfl
theorem wpList_store64 {ops : Array Oper} {rest : List Oper} {o : Oper} {a : Act} {w0 : World} {Q : Exit → Act → World → Prop} (L : List Int) (hL : L.length = 144) (hg : o.guard = none) (x y : Operand)
    (ho : o.op = .store 57 x y) (hd : o.dst = none) (hx : a.eval x = .pointer (some ⟨w0.heap.size, 0, none⟩)) (hy : a.eval y = .agg (L.map (Value.int .i64)).toArray)
    (E : TypeId) (old : Array Value) (hold : old.size = 144) (h : wpList Try.prog ops Q rest a (w0.alloc (.cells (L.map (Value.int .i64)).toArray E))) :
    wpList Try.prog ops Q (o :: rest) a (w0.alloc (.cells old E)) := by
  refine wpList_store_rowTo hg _ x y ho hd w0.heap.size (L.map (Value.int .i64)).toArray hx hy E old (show (w0.heap.push _)[w0.heap.size]? = _ by rw [Array.getElem?_push_size]) (by rw [infoDs]; simp [hL]) (by rw [hold]; simp [hL]) ?_ ?_
  · refine Array.all_eq_true_iff_forall_mem.2 (fun v hv => ?_)
    simp only [List.mem_toArray, List.mem_map] at hv
    obtain ⟨i, _, rfl⟩ := hv
    rfl
  · rw [World.setRow_alloc_new]; exact h
theorem run_cut (g N : Nat) (hN : N ≤ 144) (w : World) :
    (Instr.sliceAt 57 (.pointer (some ⟨g, 0, none⟩)) none (some (.int .i64 (N : Int))) none).run Try.prog w = .ok (.slice (some ⟨g, 0, none⟩) N 144) w := by
  have hl : Try.prog.arrayLen 57 = 144 := by kernel_rfl
  have he : Try.prog.elem 57 = 3 := by kernel_rfl
  have hu : Try.prog.underlying 57 = some (.array (Try.prog.arrayLen 57) (Try.prog.elem 57)) := by rw [hl, he]; exact Try.underlying57
  rw [run_sliceAt_array_h w _ _ hu .i64 (N : Int) (by omega) (by rw [hl]; omega), he, Try.sizeOf3, hl]
  simp [slicedAt]
  rfl
theorem own_slice {E : TypeId} {w : World} {lo n : Nat} {v : Value} {xs : List Int} (h : w.ownsRow lo E 1 v n (xs.map (Value.int .i64))) : ∃ A c, v = .slice A n c ∧ OwnI E w lo A n c xs := by
  have h0 := h
  rcases h.2 with ⟨hv, hn⟩ | ⟨g, cap, cur, hv, _⟩
  · subst hn; subst hv; exact ⟨_, _, rfl, h0⟩
  · subst hv; exact ⟨_, _, rfl, h0⟩

end Go.Proofs.Ytoangjjikmjkgaa
