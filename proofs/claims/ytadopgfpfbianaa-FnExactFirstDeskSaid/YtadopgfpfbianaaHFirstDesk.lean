/-
  'Rows.FnExactFirstDeskSaid': for every input that reads as data the law answers true, and each argument reads behind the call as it did before. No condition.
-/
import Derived.Test.YtadopgfpfbianaaRow
import Derived.ChangeMaps5
import Derived.Test.YtadopgfpfbianaaLFirstDesk
namespace Go.Proofs.Ytadopgfpfbianaa
open Go.ChangeShapes Go.WideShapes Go.ChangeAt Go.RowKit
set_option linter.unusedVariables false

set_option maxRecDepth 100000 in
theorem lifted_FirstDesk (os : Os) (started : os.Started) (H : Type) (enc : TypeId × Value → H) :
    ReturnsInHanded {} Try.checked os 3 .any (Rows.fnExactFirstDeskSpec.pre6 enc Try.prog Try.f3 Rows.fnExactFirstDeskRow.domain false) (Rows.fnExactFirstDeskSpec.post enc Try.prog Try.f3 false true false false) := by
  refine returnsInHanded_of_change (C := Try.checked) own started (by kernel_rfl) Try.func3
    (ChangeSpec.witness6 (enc := enc) (C := Try.checked) false ⟨#[], #[], []⟩ 8 (by kernel_rfl) (by kernel_rfl) (by kernel_rfl) (by kernel_rfl)) ?_
  intro W base args ds gs before hval0 hW hcnd _
  have hval : ∀ (j : Nat) t v, Try.f3.params[j]? = some t → args[j]? = some v → Value.okWide Try.prog W .any base t v := hval0
  have hW' := hW
  obtain ⟨p, q, hA0, hV, rfl, hfz, hnd⟩ := hW
  have hA : DataW.TrodAll enc Try.prog W 0 (fun _ => true) true Try.f3.params.toList args.toList ds p := hA0
  have hA1 := hA
  rw [Try.params3] at hA1 hval
  obtain ⟨hargs, rfl, rfl⟩ := trodAll_nil hA1
  obtain rfl : args = #[] := by cases args; simp_all
  obtain ⟨rfl, rfl⟩ := trodVars_none hV
  clear hA0 hval0
  rw [List.append_nil] at hW'
  refine (law_FirstDesk W).mono fun e W' ⟨he, hg⟩ => ?_
  subst he
  refine ⟨_, rfl, law_post (by kernel_rfl) (fun t ht => ?_) hW' hA rfl rfl rfl rfl hg⟩
  rw [Try.params3] at ht
  simp at ht

set_option maxRecDepth 100000 in
set_option maxHeartbeats 2000000 in
theorem closed_FirstDesk : joinedFacts Try.pinned.checked.prog 3 Try.f3 Rows.fnExactFirstDeskSpec Rows.fnExactFirstDeskRow = true :=
  joined_of (by as_aux_lemma => kernel_rfl) pf_laid pf_maps (by as_aux_lemma => kernel_rfl) (by as_aux_lemma => kernel_rfl) rfl pf_stops rfl pf_knobs (by as_aux_lemma => kernel_rfl) (by as_aux_lemma => kernel_rfl) (by as_aux_lemma => kernel_rfl) (by as_aux_lemma => kernel_rfl) (by as_aux_lemma => kernel_rfl) (by as_aux_lemma => kernel_rfl) (by as_aux_lemma => kernel_rfl) (by as_aux_lemma => kernel_rfl) (by as_aux_lemma => kernel_rfl) rfl (by as_aux_lemma => kernel_rfl) (by as_aux_lemma => kernel_rfl) (by as_aux_lemma => kernel_rfl) pf_plain rfl pf_heard pf_enter pf_final rfl pf_make rfl rfl rfl (by as_aux_lemma => kernel_rfl) (by as_aux_lemma => kernel_rfl) (by as_aux_lemma => kernel_rfl)

theorem name_FirstDesk : Try.pinned.checked.prog.funcNamed Rows.fnExactFirstDeskRow.func = some 3 := by kernel_rfl

theorem holds_FirstDesk : Rows.FnExactFirstDeskSaid :=
  OpenClaim.holds_of_wide 3 Try.f3 rfl rfl rfl rfl rfl rfl rfl ⟨rfl, rfl, rfl, rfl, rfl⟩ rfl rfl rfl rfl rfl name_FirstDesk Try.func3 closed_FirstDesk
    (of_decide_eq_true (by as_aux_lemma => kernel_rfl)) (by unfold Func.isWrapper; first | (rw [if_pos (by decide +kernel)]; as_aux_lemma => kernel_rfl) | (rw [if_neg (by decide +kernel)]; exact ⟨rfl, rfl⟩))
    (fun os started H enc _ => lifted_FirstDesk os started H enc)

end Go.Proofs.Ytadopgfpfbianaa
