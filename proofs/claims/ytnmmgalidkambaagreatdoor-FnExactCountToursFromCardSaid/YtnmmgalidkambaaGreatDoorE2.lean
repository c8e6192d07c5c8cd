/-
  The cells of a set as an iterator: its contract.
-/
import Derived.Test.YtnmmgalidkambaaGreatDoorE1
import Derived.RangeFuncNested
import Derived.RangeFuncBound
import Derived.RangeFuncCalls
import Derived.RangeFuncLeaves
import Derived.Shelf.Abstract
import Derived.Shelf.RegionOpen
import Derived.WalkKit
import Derived.OwnWalkIn
import Derived.TacticsInMore
import Derived.LoopNIn
import Derived.LoopIn
namespace Go.Proofs.YtnmmgalidkambaaGreatDoor
open Go.RowKit Go.Shelf
attribute [local go_sem] Oper.semAt_some

set_option maxRecDepth 100000 in
set_option maxHeartbeats 1000000 in
/-- 'each' yields the cells of a set, least first, so long as it is told to go on. -/
theorem each_in (n l s : Nat) (hs : s < 18446744073709551616) (J : List Int → World → Prop) (W : World) (hT : ∀ pre w, J pre w → Tab64 w)
    (hY : ∀ (pre : List Int) (x : Int) (rest : List Int) (w : World), bitsL s = pre ++ x :: rest → J pre w → YieldAt Fence.wide (n - 1) Tryz.prog l #[.int .i64 x] w fun e w' => e = .returned (.bool true) ∧ J (pre ++ [x]) w')
    (h0 : J [] W) :
    CallsIn Fence.wide n Tryz.prog 40 #[.int .u64 (s : Int), .func (.yield l) #[] #[]] W fun e w' => (∃ v, e = .returned v) ∧ J (bitsL s) w' := by
  refine callsIn_of_wp Tryz.func40 rfl trivial ?_ rfl
  simp only [Tryz.ntmps40, List.size_toArray, List.length_cons, List.length_nil, Nat.reduceAdd, Nat.reduceSub, Array.replicate_succ, Array.replicate_zero, List.push_toArray, List.append_toArray, List.nil_append, List.cons_append]
  gi_wp2
  gi_loopw [0] (fun v wr => ∃ (r : Nat) (pre : List Int), v = .int .u64 (r : Int) ∧ r < 18446744073709551616 ∧ bitsL s = pre ++ bitsL r ∧ J pre wr) (fun v _ => (intOf v).toNat)
  case atStart => exact ⟨s, [], rfl, hs, rfl, h0⟩
  case round =>
    obtain ⟨r, pre, rfl, hr, hsp, hJ⟩ := hrel
    by_cases hz : r = 0
    · subst hz
      have HF := Lib.hid (show bitsL s = pre by rw [hsp, bitsL_zero, List.append_nil])
      clear hsp
      have h00 : ((((0 : Nat) : Int)) != 0) = false := rfl
      gi_wp2
      refine ⟨trivial, ?_⟩
      gi_wp2
      refine ⟨fun _ h => (by cases h), ?_⟩
      gi_wp2
      go_end0
      exact ⟨⟨_, rfl⟩, by rw [HF.out]; exact hJ⟩
    · have hz0 : ((r : Int) == 0) = false := by simp; omega
      have hz1 : ¬ ((r : Int) = 0) := by omega
      obtain ⟨hk, hb, hlow⟩ := ctz_facts hz hr
      have hst := bitsL_step hz hr
      have hL1 := least_any r hr wr (hT pre wr hJ)
      have hclt := clr_lt hk hb
      generalize hkd : Lib.ctz 64 r = k at hk hb hlow hst hL1 hclt
      have HK := Lib.hid hkd
      have HN := Lib.hid (show bitsL s = (pre ++ [(k : Int)]) ++ bitsL (clr r k) by rw [hsp, hst]; simp)
      obtain ⟨fn, tmps, assign, body, hy, hR⟩ := hY pre (k : Int) (bitsL (clr r k)) wr (by rw [hsp, hst]) hJ
      have HC := Lib.hid hclt
      have HR := Lib.hid (Nat.lt_of_lt_of_le hclt (Nat.le_of_lt hr))
      clear hsp hst hb hlow hkd hclt
      gi_wp2
      refine ⟨trivial, (fun h => by cases h), (callsIn_wide.2 hL1).mono ?_⟩
      rintro e w' ⟨rfl, rfl⟩
      clear hL1
      gi_wp2
      refine ⟨(fun h => by cases h), hR.mono ?_⟩
      rintro e w' ⟨rfl, hJ2⟩
      clear hR hy
      have hL2 := least_any r hr w' (hT _ w' hJ2)
      have hW2 := without_any r k hr hk w'
      rw [HK.out] at hL2
      gi_wp2
      refine ⟨trivial, (fun h => by cases h), (callsIn_wide.2 hL2).mono ?_⟩
      rintro e w'' ⟨rfl, rfl⟩
      clear hL2
      gi_wp2
      refine ⟨trivial, (fun h => by cases h), (callsIn_wide.2 hW2).mono ?_⟩
      rintro e w'' ⟨rfl, rfl⟩
      clear hW2
      gi_wp2
      go_roundw
      case rel => exact ⟨clr r k, pre ++ [(k : Int)], rfl, HR.out, HN.out, hJ2⟩
      case measure => have := HC.out; simp [intOf]; omega
end Go.Proofs.YtnmmgalidkambaaGreatDoor
