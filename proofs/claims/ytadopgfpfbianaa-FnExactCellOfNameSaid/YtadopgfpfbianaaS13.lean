/-
  Contracts: CellOfName, in the program.
-/
import Derived.Test.YtadopgfpfbianaaS5
import Derived.Test.YtadopgfpfbianaaB17
import Derived.Deep.DeepCutAuto
namespace Go.Proofs.Ytadopgfpfbianaa
open Go.RowKit

def cellV (W H : Int) (xs : List Int) (s : ByteArray) : Int := if findV W H xs s < 0 then 0 else findV W H xs s
def cellB (W H : Int) (xs : List Int) (s : ByteArray) : Bool := decide (0 ≤ findV W H xs s)

theorem wrap_in {x : Int} (h : -1000 ≤ x ∧ x ≤ 1000) : wrap64 x = x := by unfold wrap64; omega

set_option maxRecDepth 100000 in
set_option maxHeartbeats 2000000 in
theorem impl_CellOfName (W H : Int) (A : Option Addr) (n c : Nat) (xs : List Int) (s : ByteArray) (w : World) (ha : Rd w A n xs) (hs : s.size ≤ maxLen) :
    Calls Try.prog 26 #[brd W H A n c, .string s] w fun e w' => e = .returned (.tuple #[.int .i64 (cellV W H xs s), .bool (cellB W H xs s)]) ∧ Below w.heap.size w w' := by
  unfold maxLen at hs
  by_cases hg : goodB W H xs = true
  · have HG := Lib.hid hg
    have HW := Lib.hid (goodB_iff.1 hg).1
    have hf : findV W H xs s = byName W H xs s := by rw [findV, if_pos hg, find_byName hg]
    have HF := Lib.hid hf
    clear hf
    by_cases h2 : s.size = 2
    · obtain ⟨⟨l⟩⟩ := s
      match l, h2 with
      | [u, v], _ =>
        have hu := u.toNat_lt
        have hv := v.toNat_lt
        have HV : Hid (cellV W H xs ⟨⟨[u, v]⟩⟩ = (if spotB W H xs ((u.toNat : Int) - 97) ((v.toNat : Int) - 49) then ((v.toNat : Int) - 49) * W + ((u.toNat : Int) - 97) else 0) ∧ cellB W H xs ⟨⟨[u, v]⟩⟩ = spotB W H xs ((u.toNat : Int) - 97) ((v.toNat : Int) - 49)) := Lib.hid (by
          have hby : byName W H xs ⟨⟨[u, v]⟩⟩ = if spotB W H xs ((u.toNat : Int) - 97) ((v.toNat : Int) - 49) = true then ((v.toNat : Int) - 49) * W + ((u.toNat : Int) - 97) else -1 := by
            unfold byName
            by_cases hsp : spotB W H xs ((u.toNat : Int) - 97) ((v.toNat : Int) - 49) = true
            · have h := spotB_iff.1 hsp
              rw [if_pos hsp, if_pos ⟨rfl, h.1, h.2⟩]; rfl
            · rw [if_neg hsp, if_neg (fun h => hsp (spotB_iff.2 ⟨h.2.1, h.2.2⟩))]
          rw [cellV, cellB, HF.out, hby]
          cases hsp : spotB W H xs ((u.toNat : Int) - 97) ((v.toNat : Int) - 49) with
          | true =>
            have h5 := (hasB_iff.1 (spotB_iff.1 hsp).2).1
            simp only [if_true]
            refine ⟨?_, ?_⟩
            · rw [if_neg (by omega)]
            · simp; omega
          | false => simp)
        have HMUL : Hid (-3000 ≤ ((v.toNat : Int) - 49) * W ∧ ((v.toNat : Int) - 49) * W ≤ 3000) := Lib.hid (by
          have h := HW.out
          have h8 : W = 1 ∨ W = 2 ∨ W = 3 ∨ W = 4 ∨ W = 5 ∨ W = 6 ∨ W = 7 ∨ W = 8 := by omega
          rcases h8 with rfl | rfl | rfl | rfl | rfl | rfl | rfl | rfl <;> omega)
        have HU : Hid ((u.toNat : Int) < 256 ∧ (v.toNat : Int) < 256) := Lib.hid (by omega)
        cases hst : spotB W H xs ((u.toNat : Int) - 97) ((v.toNat : Int) - 49) with
        | true =>
          have HST := Lib.hid hst
          rw [show cellV W H xs ⟨⟨[u, v]⟩⟩ = ((v.toNat : Int) - 49) * W + ((u.toNat : Int) - 97) by rw [HV.out.1, hst]; rfl, show cellB W H xs ⟨⟨[u, v]⟩⟩ = true by rw [HV.out.2, hst]]
          clear hst
          have hwu : wrap64 (wrap64 (u.toNat : Int) - 97) = (u.toNat : Int) - 97 := by rw [wrap_in (x := (u.toNat : Int)) (by omega), wrap_in (by omega)]
          have hwv : wrap64 (wrap64 (v.toNat : Int) - 49) = (v.toNat : Int) - 49 := by rw [wrap_in (x := (v.toNat : Int)) (by omega), wrap_in (by omega)]
          have HWU := Lib.hid hwu; have HWV := Lib.hid hwv
          clear hwu hwv
          go_enter Try.func26, Try.ntmps26
          go_wp2_with fail
          refine (isBoard_any _ _ _ _ _ _ _ (ha.alloc _)).mono ?_
          rw [hg]
          rintro e wv ⟨rfl, hb⟩
          have a0 := newbox hb 0; have a1 := newbox hb 1; have a2 := newbox hb 2; have al := newbox_lt hb
          simp only [List.getElem?_toArray, List.getElem?_cons_zero, List.getElem?_cons_succ] at a0 a1 a2
          have B := Lib.hid (below_box hb)
          have R := Lib.hid (ha.keep B.out)
          clear hb hg
          go_wp2
          go_cut [6] (fun s6 wx => ∃ gp : Nat, s6 = .pointer (some ⟨gp, 0, none⟩) ∧ SpotAt wx gp ((u.toNat : Int) - 97) ((v.toNat : Int) - 49) ∧ Below wv.heap.size wv wx)
          case first =>
            go_region
            all_goals (go_wp2_with fail; go_meet; exact ⟨_, rfl, ⟨by go_simp; exact HWU.out, by go_simp; exact HWV.out, by simp; try omega⟩, (by repeat (first | exact Below.refl _ _ | refine below_drewN ?_ _ | refine Below.drew ?_ | refine Below.setCell ?_ (by simp) _ | refine Below.setCell ?_ (by simp; omega) _ | refine below_new ?_ _))⟩)
          case rest =>
            obtain ⟨gp, rfl, hsp, hbx⟩ := hcut
            obtain ⟨s0, s1, sl⟩ := hsp
            replace a0 := cell_keep a0 al hbx; replace a1 := cell_keep a1 al hbx; replace a2 := cell_keep a2 al hbx; replace al := lt_keep al hbx
            replace R := Lib.hid (R.out.keep hbx); replace B := Lib.hid (below_next B.out hbx)
            clear hbx
            go_wp2_with fail
            refine (isSpotThere_any W H A n c xs ((u.toNat : Int) - 97) ((v.toNat : Int) - 49) _ R.out HG.out (by have := HU.out; omega) HMUL.out).mono ?_
            rw [HST.out]
            rintro e wx ⟨rfl, hb⟩
            replace a0 := cell_keep a0 al hb; replace a1 := cell_keep a1 al hb; replace a2 := cell_keep a2 al hb; replace al := lt_keep al hb; replace s0 := cell_keep s0 sl hb; replace s1 := cell_keep s1 sl hb; replace sl := lt_keep sl hb
            replace B := Lib.hid (below_next B.out hb)
            clear hb R
            go_wp2_with fail
            refine (number_gen ((u.toNat : Int) - 97) ((v.toNat : Int) - 49) W _ (by have := HU.out; omega) (by have := HMUL.out; omega)).mono ?_
            rintro e wx ⟨rfl, hb⟩
            replace B := Lib.hid (below_next B.out hb)
            clear hb
            go_wp2
            go_ret2
            exact ⟨rfl, B.out⟩
        | false =>
          have HST := Lib.hid hst
          rw [show cellV W H xs ⟨⟨[u, v]⟩⟩ = 0 by rw [HV.out.1, hst]; rfl, show cellB W H xs ⟨⟨[u, v]⟩⟩ = false by rw [HV.out.2, hst]]
          clear hst
          have hwu : wrap64 (wrap64 (u.toNat : Int) - 97) = (u.toNat : Int) - 97 := by rw [wrap_in (x := (u.toNat : Int)) (by omega), wrap_in (by omega)]
          have hwv : wrap64 (wrap64 (v.toNat : Int) - 49) = (v.toNat : Int) - 49 := by rw [wrap_in (x := (v.toNat : Int)) (by omega), wrap_in (by omega)]
          have HWU := Lib.hid hwu; have HWV := Lib.hid hwv
          clear hwu hwv
          go_enter Try.func26, Try.ntmps26
          go_wp2_with fail
          refine (isBoard_any _ _ _ _ _ _ _ (ha.alloc _)).mono ?_
          rw [hg]
          rintro e wv ⟨rfl, hb⟩
          have a0 := newbox hb 0; have a1 := newbox hb 1; have a2 := newbox hb 2; have al := newbox_lt hb
          simp only [List.getElem?_toArray, List.getElem?_cons_zero, List.getElem?_cons_succ] at a0 a1 a2
          have B := Lib.hid (below_box hb)
          have R := Lib.hid (ha.keep B.out)
          clear hb hg
          go_wp2
          go_cut [6] (fun s6 wx => ∃ gp : Nat, s6 = .pointer (some ⟨gp, 0, none⟩) ∧ SpotAt wx gp ((u.toNat : Int) - 97) ((v.toNat : Int) - 49) ∧ Below wv.heap.size wv wx)
          case first =>
            go_region
            all_goals (go_wp2_with fail; go_meet; exact ⟨_, rfl, ⟨by go_simp; exact HWU.out, by go_simp; exact HWV.out, by simp; try omega⟩, (by repeat (first | exact Below.refl _ _ | refine below_drewN ?_ _ | refine Below.drew ?_ | refine Below.setCell ?_ (by simp) _ | refine Below.setCell ?_ (by simp; omega) _ | refine below_new ?_ _))⟩)
          case rest =>
            obtain ⟨gp, rfl, hsp, hbx⟩ := hcut
            obtain ⟨s0, s1, sl⟩ := hsp
            replace a0 := cell_keep a0 al hbx; replace a1 := cell_keep a1 al hbx; replace a2 := cell_keep a2 al hbx; replace al := lt_keep al hbx
            replace R := Lib.hid (R.out.keep hbx); replace B := Lib.hid (below_next B.out hbx)
            clear hbx
            go_wp2_with fail
            refine (isSpotThere_any W H A n c xs ((u.toNat : Int) - 97) ((v.toNat : Int) - 49) _ R.out HG.out (by have := HU.out; omega) HMUL.out).mono ?_
            rw [HST.out]
            rintro e wx ⟨rfl, hb⟩
            replace B := Lib.hid (below_next B.out hb)
            clear hb R
            go_wp2
            go_ret2
            exact ⟨rfl, B.out⟩
    · have hf2 : findV W H xs s = -1 := by rw [HF.out, byName, if_neg (fun h => h2 h.1)]
      rw [show cellV W H xs s = 0 by rw [cellV, hf2]; rfl, show cellB W H xs s = false by rw [cellB, hf2]; rfl]
      have h2' : ((s.size : Int) != 2) = true := by simp; omega
      have h2'' : ((s.size : Int) == 2) = false := by simp; omega
      clear hf2
      go_enter Try.func26, Try.ntmps26
      go_wp2_with fail
      refine (isBoard_any _ _ _ _ _ _ _ (ha.alloc _)).mono ?_
      rw [hg]
      rintro e wv ⟨rfl, hb⟩
      have B := Lib.hid (below_box hb)
      clear hb
      go_wp2
      go_ret2
      exact ⟨rfl, B.out⟩
  · have hg' : goodB W H xs = false := by simpa using hg
    have hf : findV W H xs s = -1 := by rw [findV, if_neg hg]
    rw [show cellV W H xs s = 0 by rw [cellV, hf]; rfl, show cellB W H xs s = false by rw [cellB, hf]; rfl]
    go_enter Try.func26, Try.ntmps26
    go_wp2_with fail
    refine (isBoard_any _ _ _ _ _ _ _ (ha.alloc _)).mono ?_
    rw [hg']
    rintro e wv ⟨rfl, hb⟩
    have B := Lib.hid (below_box hb)
    clear hb
    go_wp2
    go_ret2
    exact ⟨rfl, B.out⟩

end Go.Proofs.Ytadopgfpfbianaa
