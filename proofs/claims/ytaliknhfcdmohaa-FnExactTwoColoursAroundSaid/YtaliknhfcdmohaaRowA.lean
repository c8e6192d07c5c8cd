/-
  Rows: arguments that are boards around.
-/
import Derived.Test.YtaliknhfcdmohaaRow
import Derived.Test.YtaliknhfcdmohaaO1
namespace Go.Proofs.Ytaliknhfcdmohaa
open Go.ChangeShapes Go.WideShapes Go.ChangeAt Go.RowKit Go.Joins
set_option linter.unusedVariables false

theorem rkA : Try.prog.cellsOf 23 = 4 := by kernel_rfl
theorem okT_A : Try.prog.readableRec 23 = true ∧ 23 < Try.prog.types.size := ⟨by kernel_rfl, of_decide_eq_true (by kernel_rfl)⟩
section
variable {H : Type} {enc : TypeId × Value → H}
set_option maxRecDepth 100000 in
theorem open_around {W : World} {base : Nat} {v : Value} {d : DataW H} {p : List MemPlace} {r : Reach} {b0 : Nat} (hv : Value.okWide Try.prog W r b0 23 v) (h : DataW.Trod enc Try.prog W base (fun _ => true) true 23 v d p) :
    ∃ V G a u, v = ard V G a u := by
  obtain ⟨c0, c1, c2, c3, y0, y1, y2, y3, m, hv', _, _, hy0, hy1, hy2, hy3⟩ := open_agg4 Try.underlying23 (by kernel_rfl) rkA hv h
  obtain ⟨a, e0, _, _⟩ := DataW.trod_int Try.underlying3 hy0
  obtain ⟨b, e1, _, _⟩ := DataW.trod_int Try.underlying3 hy1
  obtain ⟨c, e2, _⟩ := DataW.trod_bool Try.underlying4 hy2
  obtain ⟨d', e3, _⟩ := DataW.trod_bool Try.underlying4 hy3
  injection e0 with e0 _
  injection e1 with e1 _
  injection e2 with e2 _
  injection e3 with e3 _
  exact ⟨a, b, c, d', by rw [hv', e0, e1, e2, e3]⟩
end

end Go.Proofs.Ytaliknhfcdmohaa
