/-
  A walk over a region that draws its order, where operations are guarded off (a short circuit):
  those are taken first by the second half of 'YieldsIf'.
-/
import Derived.Test.YtkbgdfibningoaaApp
import Derived.Deep.RegionHeld3
namespace Go
open Lean Elab Tactic Meta

partial def walkSk (keep tac : TSyntax `tactic) : TacticM Unit := withMainContext do
  let t := (← instantiateMVars (← getMainTarget)).consumeMData
  unless t.isAppOfArity ``wpAnyH 9 do throwError "go_region_skip: no wpAnyH:\n{t}"
  let args := t.getAppArgs
  let md := args[1]!
  let ops := args[2]!
  let listed := args[6]!
  let ready ← kernelNats (mkApp3 (mkConst ``Region.ready) md ops listed)
  if ready.isEmpty then
    evalTactic (← `(tactic| refine wpAnyH_done (by kernel_rfl) ?_ _))
    return
  for i in ready do
    let some oe := opAt ops i | throwError "go_region_skip: not written out"
    let o ← Term.exprToSyntax oe
    let s ← saveState
    let off ← try
      Tactic.withoutRecover (evalTactic (← `(tactic| refine wpAnyH_take (i := $(quote i)) (oi := $o) (v := undef) rfl (by kernel_rfl) (by kernel_rfl) (by kernel_rfl) (fun _ _ _ h => h) (Or.inr ⟨by rfl, rfl⟩) (by assumption) ?_)))
      pure true
    catch _ => s.restore; pure false
    if off then
      evalTactic (← `(tactic| try simp only [Act.put, List.setIfInBounds_toArray, List.set_cons_zero, List.set_cons_succ]))
      walkSk keep tac
      return
    if opHead ops i == some ``Op.call then continue
    let s ← saveState
    let took ← try
      Tactic.withoutRecover do
        evalTactic (← `(tactic| refine wpAnyH_take (i := $(quote i)) (oi := $o) (v := ?_) rfl (by kernel_rfl) (by kernel_rfl) (by kernel_rfl) (fun _ _ _ h => h) (Or.inl ⟨by rfl, ?_⟩) (by assumption) ?_))
        let [_, hy, rest] ← getGoals | throwError "three goals"
        setGoals [hy]
        evalTactic (← `(tactic| (intro w hSw; (try dsimp only at hSw); go_simp)))
        unless (← getGoals).isEmpty do evalTactic (← `(tactic| with_reducible rfl))
        unless (← getGoals).isEmpty do throwError "not closed"
        setGoals [rest]
        evalTactic (← `(tactic| try simp only [Act.put, List.setIfInBounds_toArray, List.set_cons_zero, List.set_cons_succ]))
      pure true
    catch _ => s.restore; pure false
    if took then
      walkSk keep tac
      return
  let [i] := ready | throwError "go_region_skip: more than one way: {ready}"
  let some oe := opAt ops i | throwError "go_region_skip: not written out"
  let o ← Term.exprToSyntax oe
  evalTactic (← `(tactic| refine wpAnyH_ready (rs := [$(quote i)]) (by kernel_rfl) (by simp) ?_))
  evalTactic (← `(tactic| refine AllReadyH.cons (o := $o) rfl (fun K hK => ?_) AllReadyH.nil))
  evalTactic (← `(tactic| go_simp))
  if (← instantiateMVars (← getMainTarget)).consumeMData.isAppOf ``Calls then
    evalTactic tac
    unless (← instantiateMVars (← getMainTarget)).consumeMData.getAppFn.isFVar do evalTactic (← `(tactic| go_wp2_with fail))
  unless (← instantiateMVars (← getMainTarget)).consumeMData.getAppFn.isFVar do throwError "go_region_skip: operation {i} stands:\n{← getMainTarget}"
  evalTactic (← `(tactic| refine hK.out _ _ ?_ (fun hHeld => ?_)))
  let [hS, rest] ← getGoals | throwError "two goals"
  setGoals [hS]
  evalTactic (← `(tactic| try dsimp only))
  unless (← getUnsolvedGoals).isEmpty do evalTactic keep
  unless (← getUnsolvedGoals).isEmpty do throwError "go_region_skip: behind operation {i} S is left"
  setGoals [rest]
  evalTactic (← `(tactic| clear hK K))
  evalTactic (← `(tactic| try simp only [Act.put, List.setIfInBounds_toArray, List.set_cons_zero, List.set_cons_succ]))
  walkSk keep tac

/-- The condition; the tactic that shows it anew; the tactic that meets a call. -/
elab "go_region_skip " S:term:max ppSpace "(" keep:tactic ")" ppSpace "(" tac:tactic ")" : tactic => withMainContext do
  evalTactic (← `(tactic| refine wp_region_held_drew (S := $S) (by kernel_rfl) ?_ (fun hHeld => ?_)))
  let [hS, rest] ← getGoals | throwError "two goals at the beginning"
  setGoals [hS]
  evalTactic (← `(tactic| try dsimp only))
  unless (← getUnsolvedGoals).isEmpty do evalTactic keep
  setGoals [rest]
  walkSk keep tac

end Go
