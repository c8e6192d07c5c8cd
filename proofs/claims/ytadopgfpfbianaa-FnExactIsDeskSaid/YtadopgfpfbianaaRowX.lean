/-
  Rows: arguments that are desks.
-/
import Derived.Test.YtadopgfpfbianaaRow
import Derived.Test.YtadopgfpfbianaaX1
namespace Go.Proofs.Ytadopgfpfbianaa
open Go.ChangeShapes Go.WideShapes Go.ChangeAt Go.RowKit Go.Joins
set_option linter.unusedVariables false

theorem rkZ : Try.prog.cellsOf 36 = 6 := by kernel_rfl
theorem rkP : Try.prog.cellsOf 22 = 1 := by kernel_rfl
theorem okT_Z : Try.prog.readableRec 36 = true ∧ 36 < Try.prog.types.size := ⟨by kernel_rfl, of_decide_eq_true (by kernel_rfl)⟩
theorem array6 {α : Type} {cs : Array α} (h : cs.size = 6) : ∃ c0 c1 c2 c3 c4 c5, cs = #[c0, c1, c2, c3, c4, c5] := by
  obtain ⟨l⟩ := cs
  match l, h with
  | [c0, c1, c2, c3, c4, c5], _ => exact ⟨c0, c1, c2, c3, c4, c5, rfl⟩
section
variable {H : Type} {enc : TypeId × Value → H}
set_option maxRecDepth 100000 in
theorem open_desk {W : World} {base : Nat} {v : Value} {d : DataW H} {p : List MemPlace} {r : Reach} {b0 : Nat} (hv : Value.okWide Try.prog W r b0 36 v) (h : DataW.Trod enc Try.prog W base (fun _ => true) true 36 v d p) (hlt : ∀ x ∈ p, x.block < W.heap.size) :
    ∃ V G A n c a b A2 n2 c2 xs ns, v = pzv V G A n c a b A2 n2 c2 ∧ Rd W A n xs ∧ Rd W A2 n2 ns := by
  obtain ⟨cs, rfl, hsz⟩ := okWide_struct Try.underlying36 hv
  obtain ⟨c0, c1, c2, c3, c4, c5, rfl⟩ := array6 (hsz.trans rkZ)
  obtain ⟨fuel, hf⟩ := h
  obtain ⟨y0, y1, y2, n, hx, _, h0, h1, h2⟩ := Deep.trod_struct3 Try.underlying36 hf
  have h0' : DataW.trod enc Try.prog W base (fun _ => true) true n 33 [c0, c1, c2] = some y0 := by simpa [Value.cells, rkB] using h0
  have h1' : DataW.trod enc Try.prog W base (fun _ => true) true n 34 [c3, c4] = some y1 := by simpa [Value.cells, rkL] using h1
  have h2' : DataW.trod enc Try.prog W base (fun _ => true) true n 22 [c5] = some y2 := by simpa [Value.cells, rkP] using h2
  obtain ⟨z0, z1, z2, m, hz, _, k0, k1, k2⟩ := Deep.trod_struct3 Try.underlying33 h0'
  obtain ⟨u0, u1, m2, hu, _, j0, j1⟩ := trod_struct2 Try.underlying34 h1'
  have k0' : DataW.trod enc Try.prog W base (fun _ => true) true m 3 [c0] = some z0 := by simpa [rkI] using k0
  have k1' : DataW.trod enc Try.prog W base (fun _ => true) true m 3 [c1] = some z1 := by simpa [rkI] using k1
  have k2' : DataW.trod enc Try.prog W base (fun _ => true) true m 22 [c2] = some z2 := by simpa [rkP] using k2
  have j0' : DataW.trod enc Try.prog W base (fun _ => true) true m2 3 [c3] = some u0 := by simpa [rkI] using j0
  have j1' : DataW.trod enc Try.prog W base (fun _ => true) true m2 3 [c4] = some u1 := by simpa [rkI] using j1
  obtain ⟨V, e0, _, _⟩ := DataW.trod_int Try.underlying3 k0'
  obtain ⟨G, e1, _, _⟩ := DataW.trod_int Try.underlying3 k1'
  obtain ⟨a, e3, _, _⟩ := DataW.trod_int Try.underlying3 j0'
  obtain ⟨b, e4, _, _⟩ := DataW.trod_int Try.underlying3 j1'
  injection e0 with e0 _
  injection e1 with e1 _
  injection e3 with e3 _
  injection e4 with e4 _
  simp only [Prod.mk.injEq] at hx
  obtain ⟨A, nn, c, xs, e2, hr⟩ := open_trod_row k2' (fun x hx9 => hlt x (by rw [hx.2, hz]; simp [hx9]))
  obtain ⟨A2, n2, cc, ns, e5, hr2⟩ := open_trod_row h2' (fun x hx9 => hlt x (by rw [hx.2]; simp [hx9]))
  exact ⟨V, G, A, nn, c, a, b, A2, n2, cc, xs, ns, by rw [e0, e1, e2, e3, e4, e5], hr, hr2⟩
end

end Go.Proofs.Ytadopgfpfbianaa
