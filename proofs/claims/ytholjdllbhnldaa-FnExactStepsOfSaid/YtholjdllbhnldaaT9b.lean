/-
  Contracts: FarthestFrom, the program.
-/
import Derived.Test.YtholjdllbhnldaaT9a
namespace Go.Proofs.Ytholjdllbhnldaa
open Go.RowKit

theorem run_whole (g : Nat) (w : World) :
    (Instr.sliceAt 64 (.pointer (some ⟨g, 0, none⟩)) none none none).run Try.prog w = .ok (.slice (some ⟨g, 0, none⟩) 64 64) w := by
  have hl : Try.prog.arrayLen 64 = 64 := by kernel_rfl
  have he : Try.prog.elem 64 = 3 := by kernel_rfl
  have hu : Try.prog.underlying 64 = some (.array (Try.prog.arrayLen 64) (Try.prog.elem 64)) := by rw [hl, he]; exact Try.underlying64
  rw [run_sliceAt_array_all w _ _ hu, he, Try.sizeOf3, hl]
  simp [slicedAt]
  rfl

set_option maxRecDepth 100000 in
set_option maxHeartbeats 2000000 in
theorem greatest_any (L : List Int) (h64 : L.length = 64) (w : World) :
    Calls Try.prog 36 #[.agg (L.map (Value.int .i64)).toArray] w fun e w' => e = .returned (.int .i64 (Go.Lib.maxOf L)) ∧ Below w.heap.size w w' := by
  obtain ⟨W1, hW1⟩ : ∃ W1, W1 = w.alloc (.cells (L.map (Value.int .i64)).toArray 64) := ⟨_, rfl⟩
  have hcs := cell_laid w L 64
  rw [← hW1] at hcs
  have HCS := Lib.hid hcs; have HL := Lib.hid h64
  have B := Lib.hid (show Below w.heap.size w W1 by rw [hW1]; exact below_new (Below.refl _ _) _)
  have hsl := fun w' => run_whole w.heap.size w'
  obtain ⟨V, hV⟩ : ∃ V, V = L.map (Value.int .i64) := ⟨_, rfl⟩
  rw [← hV] at hW1 ⊢
  clear hcs h64 hV
  go_enter Try.func36, Try.ntmps36
  go_wp2_with fail
  rw [← hW1]
  clear hW1
  refine (Try.slices_Max_int w.heap.size 0 64 64 L _ (by omega) (by have := HL.out; omega) (by omega) HCS.out).mono ?_
  rintro e wz ⟨rfl, rfl⟩
  go_wp2
  go_ret
  exact ⟨ret_int (by rw [List.take_of_length_le (by have := HL.out; omega)]), B.out⟩

end Go.Proofs.Ytholjdllbhnldaa
