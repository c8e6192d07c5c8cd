import Derived.Test.YtkbgdfibningoaaB1
namespace Go.Proofs.Ytkbgdfibningoaa
open Go.RowKit

set_option maxHeartbeats 400000 in
theorem law_IsLeaper (a b : Int) (w : World) :
    Calls Try.prog 3 #[lpr a b] w fun e w' => e = .returned (.bool true) ∧ Below w.heap.size w w' := by
  go_enter Try.func3, Try.ntmps3
  go_wp2_with fail
  refine (toLeaper_any _ _ _).mono ?_
  rintro e w1 ⟨rfl, hb1⟩
  have hB1 := Lib.hid ((below_new (Below.refl _ _) _).trans (hb1.mono (by simp)))
  obtain ⟨hc1, hf1⟩ := bcell hb1
  have hz1 : w.heap.size < w1.heap.size := by have := hb1.size; simp at this; omega
  clear hb1
  go_wp2_with fail
  refine (specIsLeaper_any _ _ _).mono ?_
  rintro e w2 ⟨rfl, hb2⟩
  have hB2 := Lib.hid (below_next hB1.out hb2)
  have hc2 : ∀ o, w2.cell? ⟨w.heap.size, o, none⟩ = w1.cell? ⟨w.heap.size, o, none⟩ := fun o => hb2.cell (p := ⟨w.heap.size, o, none⟩) hz1
  clear hb2
  go_wp2_with fail
  refine (toLeaper_any _ _ _).mono ?_
  rintro e w3 ⟨rfl, hb3⟩
  have hB3 := Lib.hid (below_next hB2.out hb3)
  clear hb3
  go_wp2_with fail
  refine (isLeaper_any _ _ _).mono ?_
  rintro e w4 ⟨rfl, hb4⟩
  have hB4 := Lib.hid (below_next hB3.out hb4)
  clear hb4
  have hne : (leaperB a b != leaperB a b) = false := by simp
  go_wp2
  go_ret
  exact ⟨rfl, hB4.out⟩
end Go.Proofs.Ytkbgdfibningoaa
