/-
  Contracts: paths counted by their leaps, in the program, as numbers wrap.
  Contracts: the distance of two cells (the program's).
  Contracts: leaps onward, as a map whose keys are the cells.
  Contracts: CountRoutes.
  The walk of the exact law on CountRoutes: it answers true, and what was there stays.
-/
import Derived.Test.YtmmfjmgjkbplpaaCP0
import Derived.Test.YtmmfjmgjkbplpaaBunHCountRoutes2
import Derived.Test.YtmmfjmgjkbplpaaCRM
import Derived.Test.YtmmfjmgjkbplpaaQ2
import Derived.Test.YtmmfjmgjkbplpaaT2a
import Derived.Test.YtmmfjmgjkbplpaaS10
import Derived.Test.YtmmfjmgjkbplpaaBunHCountRoutes1
import Derived.Test.YtmmfjmgjkbplpaaT1
import Derived.Test.YtmmfjmgjkbplpaaLaw0
namespace Go.Proofs.Ytmmfjmgjkbplpaa
open Go.RowKit Go.Maps

theorem zero_intR : ∀ w, (zeroValue 3).run Try.prog w = .ok (.int .i64 0) w := fun _ => by kernel_rfl
/-- The row of a cell lies below what the call makes. -/
theorem row_offW {w w6 : World} {lo mb ab : Nat} {cells : List Int} {adj : Int → List Int} (h : OnMapW w lo mb cells adj) (hb : Below w.heap.size w w6) {x : Int} (hx : x ∈ cells) (hr : 0 ≤ x ∧ x < 144) {A : Option Addr} {n c : Nat}
    (hl : (Instr.lookup 50 (.map (some mb)) (.int .i64 x) false).run Try.prog w6 = .ok (.slice A n c) w6) (hab : w.heap.size ≤ ab) : ∀ a, A = some a → some a.block ≠ some ab := by
  obtain ⟨_, m, f, _, h2, h3⟩ := h
  obtain ⟨A', n', c', hv, _, _, h5⟩ := h3 x hx
  have h6 := (h2.keep hb).lookup Try.underlying3 Try.underlying50 (zero_ints w6) (wf_small (x := x) (by omega))
  rw [h6, hv] at hl
  injection hl with hl _
  injection hl with e1 _ _
  intro a ha e
  injection e with e
  have := (h5 a (e1.trans ha)).2.1
  omega

set_option maxRecDepth 100000 in
set_option maxHeartbeats 4000000 in
theorem countPathsW_any (lo0 mb : Nat) (cells : List Int) (adj : Int → List Int) (s t : Int) (L : Nat) (w : World) (hm : OnMapW w lo0 mb cells adj) (hn : cells.Nodup) (hs : s ∈ cells) (hcl : ∀ x ∈ cells, 0 ≤ x ∧ x < 144) (hadj : ∀ x, ∀ y ∈ adj x, y ∈ cells) (hnd : ∀ c, (adj c).Nodup) (hL : L ≤ 144) (htr : 0 ≤ t ∧ t ≤ 144) :
    Calls Try.prog 28 #[.map (some mb), .int .i64 s, .int .i64 t, .int .i64 (L : Int)] w fun e w' => e = .returned (.int .i64 (wrap64 (waysK cells adj s L t))) ∧ Below w.heap.size w w' := by
  have HOM := Lib.hid hm; have HCN := Lib.hid hn; have HSC := Lib.hid hs; have HCL := Lib.hid hcl; have HADJ := Lib.hid hadj; have HND := Lib.hid hnd
  have hsr := hcl s hs
  have hm0 := MapK.made Try.prog 3 w (.int .i64 0)
  have hmm := @run_makeMap Try.prog
  have HWS := Lib.hid (show (Lit.int .i64 s).wf = true from wf_small (by omega))
  have HMBLT := Lib.hid hm.lt
  have hb0 : Below w.heap.size w (w.alloc (.map #[] 0)) := below_new (Below.refl _ _) _
  have HM0 := Lib.hid hm0; have HB00 := Lib.hid hb0
  clear hm hn hs hcl hadj hnd hm0 hb0
  go_enter Try.func28, Try.ntmps28
  go_wp2_with (refine wpList_insertK rfl (.tmp 15) (.tmp 16) (.const (.int .i64 1)) rfl Try.underlying3 Try.underlying62 rfl HM0.out (by omega) s (.int .i64 1) rfl rfl HWS.out ?_; intro w1 hm1 hg1)
  have HM1 := Lib.hid (show MapK Try.prog 3 w1 w.heap.size (0 + 1) (.int .i64 0) (fun y => .int .i64 (wrap64 (waysK cells adj s 0 y))) (fun y => if y = s then true else false) by
    have e : (fun y => Value.int .i64 (wrap64 (waysK cells adj s 0 y))) = fun y => if y = s then Value.int .i64 1 else Value.int .i64 0 := by
      funext y; rw [waysK]; split; (· rw [wrap_1]); (· rw [wrap_0])
    rw [e]; exact hm1)
  have HB1 := Lib.hid (HB00.out.grown hg1 HB00.out.size (fun g h => by injection h with h; omega))
  clear hm1 hg1
  have HKS := Lib.hid (show ∀ x, (if x = s then true else false) = true → x ∈ cells from fun x hx => by
    by_cases e : x = s
    · rw [e]; exact HSC.out
    · rw [if_neg e] at hx; exact absurd hx (by simp))
  go_wp2
  go_loopw [9, 19] (fun s9 i wr => ∃ (k eb n : Nat) (ks : Int → Bool), k ≤ L ∧ i = .int .i64 k ∧ s9 = .map (some eb) ∧ w.heap.size ≤ eb ∧ MapK Try.prog 3 wr eb n (.int .i64 0) (fun y => .int .i64 (wrap64 (waysK cells adj s k y))) ks ∧ n ≤ 50000 ∧ (∀ x, ks x = true → x ∈ cells) ∧ Below w.heap.size w wr) (fun _ i _ => L - (intOf i).toNat)
  case atStart => exact ⟨0, w.heap.size, 0 + 1, _, Nat.zero_le _, rfl, rfl, Nat.le_refl _, HM1.out, by omega, HKS.out, HB1.out⟩
  case round =>
    clear HM1 HB1 HM0 HB00 HKS
    obtain ⟨k, eb, n, ks, hk, rfl, rfl, heb, hme, hn5, hkc, hbr⟩ := hrel
    have HME := Lib.hid hme; have HKC := Lib.hid hkc; have HBR := Lib.hid hbr
    have heblt := hme.lt
    have hszr := hbr.size
    clear hme hkc hbr
    by_cases hlt : k < L
    · obtain ⟨F, hF⟩ : ∃ F, F = waysK cells adj s k := ⟨_, rfl⟩
      have HFE := Lib.hid hF
      rw [← hF] at HME
      clear hF
      have k0 : (0 : Int) ≤ (k : Int) := by omega
      have kL : (k : Int) < (L : Int) := by omega
      have HEA := Lib.hid (show MapK Try.prog 3 (wr.alloc (.map #[] 0)) eb n (.int .i64 0) (fun y => .int .i64 (wrap64 (F y))) ks from HME.out.keep (below_new (Below.refl _ _) _))
      have HAA := Lib.hid (MapK.made Try.prog 3 wr (.int .i64 0))
      have HBA := Lib.hid (HBR.out.alloc HBR.out.size (.map #[] 0))
      go_wp2_with (at_range; refine wpList_rangeI rfl (.tmp 22) rfl Try.underlying3 Try.underlying62 rfl HEA.out ?_; intro w0 cnt0 hr0 hf0 hg0 hs0)
      have HR00 := Lib.hid hr0
      have HF0 := Lib.hid (show ∀ x, ks x = false → wrap64 (F x) = 0 from fun x hx => by have h := hf0 x hx; injection h)
      have HB0 := Lib.hid (HBA.out.grown hg0 HBA.out.size (fun g h => by cases h))
      obtain ⟨ab, hab⟩ : ∃ ab, ab = wr.heap.size := ⟨_, rfl⟩
      have HA0 := Lib.hid (show MapK Try.prog 3 w0 ab 0 (.int .i64 0) (fun _ => .int .i64 0) (fun _ => false) by rw [hab]; exact HAA.out.other hg0 (by simp))
      obtain ⟨rr, hrr⟩ : ∃ rr, rr = ab + 1 := ⟨_, rfl⟩
      have HR0 := Lib.hid (show RangesI Try.prog 3 w0 eb rr n (.int .i64 0) (fun y => .int .i64 (wrap64 (F y))) ks cnt0 by rw [hrr, hab]; have h := HR00.out; rw [World.size_alloc] at h; exact h)
      have HRR := Lib.hid (show w.heap.size ≤ rr by omega)
      have HNE := Lib.hid (show eb ≠ ab ∧ rr ≠ ab ∧ w.heap.size ≤ ab from ⟨by omega, by omega, by omega⟩)
      have HOFF := Lib.hid (fun (w6 : World) (hb6 : Below w.heap.size w w6) (x : Int) (hx : x ∈ cells) (A3 : Option Addr) (n3 c3 : Nat) (hl : (Instr.lookup 50 (.map (some mb)) (.int .i64 x) false).run Try.prog w6 = .ok (.slice A3 n3 c3) w6) => row_offW HOM.out hb6 hx (HCL.out x hx) hl HNE.out.2.2)
      have hsz9 : wr.heap.size = ab := hab.symm
      have hrr2 : (wr.alloc (.map #[] 0)).heap.size = rr := by rw [World.size_alloc]; omega
      rw [hrr2]
      (try rw [hsz9])
      clear hr0 hf0 hg0 hs0 HEA HAA HBA HR00 heb HME HBR hab hsz9 hrr hrr2
      have HNIL := Lib.hid (show ∀ x ∈ ([] : List Int), x ∈ cells ∧ ks x = false from fun x h => absurd h (by simp))
      have HNO := Lib.hid (show ∀ y : Int, false = true → y ∈ cells from fun _ h => absurd h (by simp))
      have HA1 := Lib.hid (show MapK Try.prog 3 w0 ab 0 (.int .i64 0) (fun y => .int .i64 (wrap64 (partW cells adj (fun c => ([] : List Int).contains c) F y))) (fun _ => false) by
        have e : (fun y => Value.int .i64 (wrap64 (partW cells adj (fun c => ([] : List Int).contains c) F y))) = fun _ => Value.int .i64 0 := by funext y; rw [partW_none (P := fun c => ([] : List Int).contains c) adj F y cells (fun _ _ => by simp), wrap_0]
        rw [e]; exact HA0.out)
      go_frame
      go_loopw [11, 12] (fun _ _ w5 => ∃ (cnt : Nat) (left : Int → Bool) (vis : List Int) (m : Nat) (ks2 : Int → Bool), RangesI Try.prog 3 w5 eb rr n (.int .i64 0) (fun y => .int .i64 (wrap64 (F y))) left cnt ∧ (∀ x, left x = true → ks x = true) ∧ vis.Nodup ∧ (∀ x ∈ vis, x ∈ cells ∧ left x = false) ∧ (∀ x, left x = false → x ∉ vis → wrap64 (F x) = 0) ∧ MapK Try.prog 3 w5 ab m (.int .i64 0) (fun y => .int .i64 (wrap64 (partW cells adj (fun c => vis.contains c) F y))) ks2 ∧ (∀ y, ks2 y = true → y ∈ cells) ∧ m ≤ 144 * vis.length ∧ Below w.heap.size w w5) (fun _ _ w5 => w5.rangeLeft eb rr)
      case atStart => exact ⟨cnt0, ks, [], 0, fun _ => false, HR0.out, fun _ h => h, List.nodup_nil, HNIL.out, fun x h _ => HF0.out x h, HA1.out, HNO.out, Nat.zero_le _, HB0.out⟩
      case round =>
        clear HR0 HA0 HA1 HB0 HF0 HNIL HNO
        obtain ⟨cnt, left, vis, m, ks2, hr5, hlk, hvn, hvi, hz0, hmb, hkb, hm5, hb5⟩ := hrel
        have HR5 := Lib.hid hr5; have HLK := Lib.hid hlk; have HVN := Lib.hid hvn; have HVI := Lib.hid hvi; have HZ0 := Lib.hid hz0; have HMB5 := Lib.hid hmb; have HKB := Lib.hid hkb; have HM5 := Lib.hid hm5; have HB5 := Lib.hid hb5
        have HV5 := Lib.hid (show vis.length ≤ 144 from nodup_len hvn (fun z hz => HCL.out z (HVI.out z hz).1))
        clear hr5 hlk hvn hvi hz0 hmb hkb hm5 hb5
        go_wp2_with (at_next; refine wpList_nextI rfl (.tmp 23) rfl Try.underlying3 rfl HR5.out ?_ ?_)
        · intro hdone
          have HD := Lib.hid hdone
          have HMF := Lib.hid (show MapK Try.prog 3 _ ab m (.int .i64 0) (fun y => .int .i64 (wrap64 (waysK cells adj s (k + 1) y))) ks2 by
            have e : (fun y => Value.int .i64 (wrap64 (waysK cells adj s (k + 1) y))) = fun y => Value.int .i64 (wrap64 (partW cells adj (fun c => vis.contains c) F y)) := by
              funext y
              rw [waysK, ← HFE.out, partW_all_w (P := fun c => vis.contains c) (fun c _ hc => HZ0.out c (HD.out c) (by simpa using hc))]
            rw [e]; exact HMB5.out)
          clear hdone
          go_wp2
          go_roundw
          case rel => exact ⟨k + 1, ab, m, ks2, by omega, by go_num, rfl, HNE.out.2.2, HMF.out, by have := HM5.out; have := HV5.out; omega, HKB.out, HB5.out⟩
          case measure => simp [intOf]; omega
        · intro x w6 cnt6 hwx hlx hr6 hlt hg6 hs6 hen
          have HXC := Lib.hid (HKC.out x (HLK.out x hlx))
          have HLX := Lib.hid hlx; have HR6 := Lib.hid hr6; have HLT := Lib.hid hlt
          have HB6 := Lib.hid (HB5.out.grown hg6 HB5.out.size (fun g h => by injection h with h; have := HRR.out; omega))
          have HMB6 := Lib.hid (HMB5.out.other hg6 (by have := HNE.out.2.1; simp; omega))
          have hxr := HCL.out x HXC.out
          obtain ⟨A3, n3, c3, hlk1, hrd, hn3⟩ := (HOM.out.keep HB6.out).lookup HXC.out (by omega)
          have HRD := Lib.hid hrd; have HN3 := Lib.hid hn3
          have HAB := Lib.hid (HOFF.out w6 HB6.out x HXC.out A3 n3 c3 hlk1)
          obtain ⟨p, hp⟩ : ∃ p, p = F x := ⟨_, rfl⟩
          have HPE := Lib.hid hp
          rw [← hp] at hen
          obtain ⟨pw, hpw⟩ : ∃ pw, pw = wrap64 p := ⟨_, rfl⟩
          have HPW := Lib.hid hpw
          rw [← hpw] at hen
          obtain ⟨B, hB⟩ : ∃ B, B = partW cells adj (fun c => vis.contains c) F := ⟨_, rfl⟩
          have HBE := Lib.hid hB
          rw [← hB] at HMB6
          have HMB := HMB6
          clear hlx hr6 hlt hg6 hs6 hrd hp hpw hB hxr HMB5 HMB6 HB5
          go_wp2
          go_loopw [33] (fun i w7 => ∃ (j : Nat) (ks3 : Int → Bool), j ≤ n3 ∧ i = .int .i64 j ∧ MapK Try.prog 3 w7 ab (m + j) (.int .i64 0) (fun y => .int .i64 (wrap64 (addRow B (adj x) p j y))) ks3 ∧ (∀ y, ks3 y = true → y ∈ cells) ∧ w6.grownBy w7 (some ab)) (fun i _ => n3 - (intOf i).toNat)
          case atStart => exact ⟨0, ks2, Nat.zero_le _, rfl, by rw [addRow_zero]; exact HMB.out, HKB.out, grown_refl _ _⟩
          case round =>
            obtain ⟨j, ks3, hj, rfl, hma, hka, hg7⟩ := hrel
            have HMA := Lib.hid hma; have HKA := Lib.hid hka; have HG7 := Lib.hid hg7
            clear hma hka
            by_cases hjl : j < n3
            · obtain ⟨b3, o3, y, he3, hg3, hy, y0⟩ := (HRD.out.other hg7 (HAB.out)).at_ hjl
              have HY := Lib.hid hy
              have hyc := HADJ.out x y (List.mem_of_getElem? hy)
              have HYC := Lib.hid hyc
              have hyr := HCL.out y hyc
              have HWF := Lib.hid (show (Lit.int .i64 y).wf = true from wf_small (by omega))
              have hlk2 : (Instr.lookup 62 (.map (some ab)) (.int .i64 y) false).run Try.prog wr = .ok (.int .i64 (wrap64 (addRow B (adj x) p j y))) wr := HMA.out.map.lookup Try.underlying3 Try.underlying62 (zero_intR wr) HWF.out
              obtain ⟨q, hq⟩ : ∃ q, q = wrap64 (addRow B (adj x) p j y) := ⟨_, rfl⟩
              rw [← hq] at hlk2
              have HQ := Lib.hid hq
              obtain ⟨u, hu⟩ : ∃ u, u = wrap64 (q + pw) := ⟨_, rfl⟩
              have HU := Lib.hid (show u = wrap64 (addRow B (adj x) p j y + p) by rw [hu, hq, HPW.out]; exact wrap_add _ _)
              have HUU := Lib.hid hu
              subst he3
              have j0 : (0 : Int) ≤ (j : Int) := by omega
              have jn : (j : Int) < (n3 : Int) := by omega
              clear hq hy hyc hyr hg7 hu
              go_wp2_with (at_mapUpdate; refine wpList_updateK rfl (.tmp 37) (.tmp 38) (.tmp 41) rfl Try.underlying3 Try.underlying62 rfl HMA.out (by have := HM5.out; have := HV5.out; omega) y (.int .i64 u) rfl (by rw [HUU.out]; rfl) HWF.out ?_; intro w8 hm8 hg8)
              have HM8 := Lib.hid hm8; have HG8 := Lib.hid hg8
              clear hm8 hg8 hlk2
              go_wp2
              go_roundw
              case rel =>
                refine ⟨j + 1, fun z => if z = y then true else ks3 z, by omega, by go_num, ?_, fun z hz => ?_, grown_next HG7.out HG8.out⟩
                · have e : (fun y9 => Value.int .i64 (wrap64 (addRow B (adj x) p (j + 1) y9))) = fun y9 => if y9 = y then Value.int .i64 u else Value.int .i64 (wrap64 (addRow B (adj x) p j y9)) := by
                    rw [addRow_next (HND.out x) HY.out]
                    funext y9
                    show Value.int .i64 (wrap64 (if y9 = y then addRow B (adj x) p j y + p else addRow B (adj x) p j y9)) = _
                    by_cases e : y9 = y
                    · rw [if_pos e, if_pos e, HU.out]
                    · rw [if_neg e, if_neg e]
                  rw [e]; exact HM8.out
                · by_cases e : z = y
                  · rw [e]; exact HYC.out
                  · exact HKA.out z (by have h9 : (if z = y then true else ks3 z) = true := hz; rw [if_neg e] at h9; exact h9)
              case measure => simp [intOf]; omega
            · have HJ := Lib.hid (show j = n3 by omega)
              have jn : ¬ (j : Int) < (n3 : Int) := by omega
              have HRG := Lib.hid (HR6.out.kept hg7 (by have := HNE.out.1; simp; omega) (by have := HNE.out.2.1; simp; omega))
              have hsw := hg7.size
              have HB7 := Lib.hid (HB6.out.grown hg7 HB6.out.size (fun g h => by injection h with h; have := HNE.out.2.2; omega))
              clear hg7
              go_wp2
              go_roundw
              case rel =>
                refine ⟨cnt6, fun y => left y && !(y == x), x :: vis, m + j, ks3, HRG.out, fun z hz => ?_, ?_, fun z hz => ?_, fun z hz hv => ?_, ?_, HKA.out, ?_, HB7.out⟩
                · rw [Bool.and_eq_true] at hz; exact HLK.out z hz.1
                · rw [List.nodup_cons]; exact ⟨(fun h => by have h9 := (HVI.out x h).2; rw [HLX.out] at h9; exact absurd h9 (by simp)), HVN.out⟩
                · rcases List.mem_cons.1 hz with rfl | hz
                  · exact ⟨HXC.out, by simp⟩
                  · exact ⟨(HVI.out z hz).1, by show (left z && !(z == x)) = false; rw [(HVI.out z hz).2]; rfl⟩
                · rw [List.mem_cons, not_or] at hv
                  refine HZ0.out z ?_ hv.2
                  rw [Bool.and_eq_false_iff] at hz
                  rcases hz with hz | hz
                  · exact hz
                  · simp at hz; exact absurd hz hv.1
                · have e : (fun y9 => Value.int .i64 (wrap64 (partW cells adj (fun c => (x :: vis).contains c) F y9))) = fun y9 => Value.int .i64 (wrap64 (addRow B (adj x) p j y9)) := by
                    funext y9
                    rw [addRow_all B (adj x) p (by have := HRD.out.1; have := HJ.out; omega), HBE.out, HPE.out, partW_more (P := fun c => vis.contains c) HCN.out HXC.out (by simpa using fun h => (by have h9 := (HVI.out x h).2; rw [HLX.out] at h9; exact absurd h9 (by simp))) (by simp) (fun c _ hne => by simp [hne])]
                  rw [e]; exact HMA.out
                · have := HM5.out; have := HN3.out; have := HJ.out; rw [List.length_cons]; omega
              case measure => rw [HRG.out.left_eq, HR5.out.left_eq]; have := HLT.out; omega
    · have HKL := Lib.hid (show k = L by omega)
      have kL : ¬ (k : Int) < (L : Int) := by omega
      have hlkt : (Instr.lookup 62 (.map (some eb)) (.int .i64 t) false).run Try.prog wr = .ok (.int .i64 (wrap64 (waysK cells adj s k t))) wr := HME.out.map.lookup Try.underlying3 Try.underlying62 (zero_intR wr) (wf_small htr)
      obtain ⟨v, hv⟩ : ∃ v, v = wrap64 (waysK cells adj s k t) := ⟨_, rfl⟩
      rw [← hv] at hlkt
      have HV := Lib.hid hv
      clear hv
      go_wp2
      go_ret
      exact ⟨by rw [HV.out, HKL.out]; rfl, HBR.out⟩

end Go.Proofs.Ytmmfjmgjkbplpaa

namespace Go.Proofs.Ytmmfjmgjkbplpaa
open Go.RowKit

def dAns (d : Int) : Int := if d = -1 then 0 else d
def dOk (d : Int) : Bool := !(d == -1)
theorem dOk_eq {d : Int} (h : -1 ≤ d) : dOk d = decide (0 ≤ d) := by rw [dOk, Bool.eq_iff_iff]; simp; omega
theorem dAns_eq {d : Int} (h : -1 ≤ d) : dAns d = if decide (0 ≤ d) = true then d else 0 := by
  unfold dAns
  by_cases h2 : d = -1
  · rw [if_pos h2, if_neg (by simp; omega)]
  · rw [if_neg h2, if_pos (by simp; omega)]

set_option maxRecDepth 100000 in
set_option maxHeartbeats 600000 in
theorem distance_any (lo0 mb : Nat) (cells : List Int) (adj : Int → List Int) (s t : Nat) (d : Int) (w : World) (hm : OnMap w lo0 mb cells adj) (hs : s < 144) (hsc : (s : Int) ∈ cells) (hcl : ∀ x ∈ cells, 0 ≤ x ∧ x < 144) (hadj : ∀ x, ∀ y ∈ adj x, y ∈ cells) (ht : t < 144) (hlen : (farL adj 144 s).length = 144) (hd : (farL adj 144 s)[t]? = some d) (hd0 : -1 ≤ d ∧ d ≤ 144) :
    Calls Try.prog 31 #[.map (some mb), .int .i64 (s : Int), .int .i64 (t : Int)] w fun e w' => e = .returned (.tuple #[.int .i64 (dAns d), .bool (dOk d)]) ∧ Below w.heap.size w w' := by
  have HFL := Lib.hid hlen; have HAT := Lib.hid (fun w' => run_farK (farL adj 144 s) hlen t ht d hd w')
  have HDF := Lib.hid (fun w' (hm' : OnMap w' lo0 mb cells adj) => distancesFrom_any lo0 mb cells adj s w' hm' hs hsc hcl hadj)
  have HM := Lib.hid hm
  have hd' := hd0
  obtain ⟨d1, d2⟩ := hd0
  have t0 : (0 : Int) ≤ (t : Int) := by omega
  have t1 : (t : Int) < 144 := by omega
  obtain ⟨L, hL⟩ : ∃ L, L = Value.agg ((farL adj 144 s).map (Value.int .i64)).toArray := ⟨_, rfl⟩
  rw [← hL] at HAT HDF
  clear hm hs hsc hcl hadj hd hlen hL hd' ht
  have DO := Lib.hid (show dOk d = !(d == -1) from rfl); have DA := Lib.hid (show dAns d = if d = -1 then 0 else d from rfl)
  obtain ⟨x, hx⟩ : ∃ x, dAns d = x := ⟨_, rfl⟩
  obtain ⟨y, hy⟩ : ∃ y, dOk d = y := ⟨_, rfl⟩
  rw [hx, hy]
  have HX := Lib.hid hx; have HY := Lib.hid hy
  clear hx hy
  by_cases hneg : d = -1
  · have hne : (d == -1) = true := by simpa using hneg
    go_enter Try.func31, Try.ntmps31
    go_wp2_with fail
    refine (HDF.out _ HM.out).mono ?_
    rintro e wv ⟨rfl, hb⟩
    have hix := HAT.out
    have HB := Lib.hid hb
    clear hb
    go_wp2
    go_ret2
    exact ⟨by rw [show x = 0 by rw [← HX.out, DA.out, if_pos hneg], show y = false by rw [← HY.out, DO.out, hne]; rfl]; rfl, HB.out⟩
  · have hne : (d == -1) = false := by simpa using hneg
    go_enter Try.func31, Try.ntmps31
    go_wp2_with fail
    refine (HDF.out _ HM.out).mono ?_
    rintro e wv ⟨rfl, hb⟩
    have hix := HAT.out
    have HB := Lib.hid hb
    clear hb
    go_wp2
    go_ret2
    exact ⟨by rw [show x = d by rw [← HX.out, DA.out, if_neg hneg], show y = true by rw [← HY.out, DO.out, hne]; rfl]; rfl, HB.out⟩

end Go.Proofs.Ytmmfjmgjkbplpaa

namespace Go.Proofs.Ytmmfjmgjkbplpaa
open Go.RowKit

theorem take_key {l : List Int} {k : Nat} {x : Int} (h : l[k]? = some x) : (fun y : Int => if y = x then true else decide (y ∈ l.take k)) = fun y => decide (y ∈ l.take (k + 1)) := by
  funext y
  rw [List.take_add_one, h]
  by_cases e : y = x
  · subst e; rw [if_pos rfl]; simp
  · rw [if_neg e, Bool.eq_iff_iff, decide_eq_true_eq, decide_eq_true_eq, List.mem_append]; simp [e]
theorem take_none (l : List Int) : (fun _ : Int => false) = fun y => decide (y ∈ l.take 0) := by funext y; simp

set_option maxRecDepth 100000 in
set_option maxHeartbeats 2000000 in
theorem onwardOfK_any (W H : Int) (A : Option Addr) (n c : Nat) (xs : List Int) (a b : Int) (w : World) (ha : Rd w A n xs) (hg : goodB W H xs = true) (hl : leaperB a b = true) :
    Calls Try.prog 27 #[brd W H A n c, lpr a b] w fun e w' => ∃ mb, e = .returned (.map (some mb)) ∧ OnMapK w' w.heap.size mb (cellsL W H xs) (leapsL W H xs a b) ∧ Below w.heap.size w w' := by
  have HL := Lib.hid hl
  clear hl
  obtain ⟨hW, hH, _, _⟩ := goodB_iff.1 hg
  have HW := Lib.hid hW; have HN := Lib.hid (cells_le hW hH)
  have HG := Lib.hid hg
  obtain ⟨i0, hi, hz0, hz1, hz2⟩ := info_parts infoI
  have HI := Lib.hid hi; have HZ0 := Lib.hid hz0; have HZ1 := Lib.hid hz1; have HZ2 := Lib.hid hz2
  clear hW hH hg hi hz0 hz1 hz2
  obtain ⟨W2, hW2⟩ : ∃ W2, W2 = ((w.alloc (.cells #[.int .i64 W, .int .i64 H, .slice A n c] 30)).alloc (.cells #[.int .i64 a, .int .i64 b] 32)).alloc (.map #[] 0) := ⟨_, rfl⟩
  have a0 : W2.cell? ⟨w.heap.size, 0, none⟩ = some (.int .i64 W) := by rw [hW2]; go_simp
  have a1 : W2.cell? ⟨w.heap.size, 1, none⟩ = some (.int .i64 H) := by rw [hW2]; go_simp
  have a2 : W2.cell? ⟨w.heap.size, 2, none⟩ = some (.slice A n c) := by rw [hW2]; go_simp
  have l0 : W2.cell? ⟨w.heap.size + 1, 0, none⟩ = some (.int .i64 a) := by rw [hW2]; go_simp
  have l1 : W2.cell? ⟨w.heap.size + 1, 1, none⟩ = some (.int .i64 b) := by rw [hW2]; go_simp
  have hsz : w.heap.size + 3 ≤ W2.heap.size := by rw [hW2]; simp
  have B := Lib.hid (show Below w.heap.size w W2 by rw [hW2]; exact below_new (below_new (below_new (Below.refl _ _) _) _) _)
  have R := Lib.hid (ha.keep B.out)
  have ga : w.heap.size < W2.heap.size := by omega
  have gl : w.heap.size + 1 < W2.heap.size := by omega
  have hmp : MapK Try.prog 3 W2 (w.heap.size + 2) 0 (.slice none 0 0) (fun _ => .slice none 0 0) (fun y => decide (y ∈ (cellsL W H xs).take 0)) := by
    rw [hW2, ← take_none]
    have := MapK.made Try.prog 3 ((w.alloc (.cells #[.int .i64 W, .int .i64 H, .slice A n c] 30)).alloc (.cells #[.int .i64 a, .int .i64 b] 32)) (.slice none 0 0)
    simpa using this
  have MP := Lib.hid hmp
  clear hmp
  have hmm := @run_makeMap Try.prog
  go_enter Try.func27, Try.ntmps27
  go_wp2_with fail
  rw [← hW2]
  obtain ⟨mb, hmb⟩ : ∃ mb, mb = w.heap.size + 1 + 1 := ⟨_, rfl⟩
  rw [show w.heap.size + 2 = mb by omega] at MP
  rw [← hmb]
  have hmb1 : w.heap.size + 2 ≤ mb := by omega
  have hmb2 : mb < W2.heap.size := by omega
  clear hW2 hmm hmb
  refine (cellsThere_any W H A n c xs _ R.out HG.out).mono ?_
  rintro e ws ⟨A1, n1, c1, rfl, hst, hb⟩
  replace a0 := cell_keep a0 ga hb; replace a1 := cell_keep a1 ga hb; replace a2 := cell_keep a2 ga hb; replace l0 := cell_keep l0 gl hb; replace l1 := cell_keep l1 gl hb; replace ga := lt_keep ga hb; replace gl := lt_keep gl hb; replace R := Lib.hid (R.out.keep hb)
  have hB0 := B.out.size
  replace B := Lib.hid (below_next B.out hb)
  have hs1 := hb.size
  have ST := Lib.hid hst.rd
  have SL := Lib.hid hst.len
  have n8 : n1 ≤ 64 := by have := cellsTo_len (W := W) (H := H) (hs := xs) (W * H).toNat; have := hst.len; have := HN.out; unfold cellsL at *; omega
  have hA1 : Hid (∀ y, A1 = some y → mb < y.block) := Lib.hid (fun y hy => by
    rcases hst.form with ⟨h, _⟩ | ⟨g, h, h2, _⟩
    · rw [h] at hy; cases hy
    · rw [h] at hy; injection hy with hy; rw [← hy]; show mb < g; omega)
  have hmlt : mb < ws.heap.size := by omega
  have n9 := hst.rd.2.1
  replace MP := Lib.hid (MP.out.keep hb)
  clear hst hb
  go_wp2
  go_loopw [12] (fun i wr => ∃ (k : Nat) (f : Int → Value), k ≤ n1 ∧ i = .int .i64 k ∧ MapK Try.prog 3 wr mb k (.slice none 0 0) f (fun y => decide (y ∈ (cellsL W H xs).take k)) ∧ (∀ x ∈ (cellsL W H xs).take k, RowAt wr w.heap.size mb (f x) (leapsL W H xs a b x)) ∧ ws.grownBy wr (some mb)) (fun i _ => n1 - (intOf i).toNat)
  case atStart => exact ⟨0, _, by omega, rfl, MP.out, by simp, grown_refl _ _⟩
  case round =>
    obtain ⟨k, f, hk, rfl, hm, hrows, hgw⟩ := hrel
    have hBw : Below w.heap.size w wr := B.out.trans (below_of_grown hgw (by omega) (fun g h => by injection h with h; omega))
    have HM := Lib.hid hm; have HR := Lib.hid hrows
    have HGW := Lib.hid hgw
    have hsw := hgw.size
    clear hm hrows
    by_cases hlt : k < n1
    · obtain ⟨bb, oo, x, rfl, hg1, hx, x0⟩ := ST.out.at_ hlt
      have hbm := hA1.out _ rfl
      simp only at hbm
      have HX := Lib.hid hx
      have hin := cellsL_mem.1 (List.mem_of_getElem? hx)
      have HXQ := Lib.hid (hasB_iff.1 hin).1
      have HXR := Lib.hid (range_of HN.out hin)
      replace x0 := hgw.cell x0 (by simp; omega)
      have b0 := hgw.cell a0 (by simp; omega); have b1 := hgw.cell a1 (by simp; omega); have b2 := hgw.cell a2 (by simp; omega); have m0 := hgw.cell l0 (by simp; omega); have m1 := hgw.cell l1 (by simp; omega)
      have RR := Lib.hid (ha.keep hBw)
      have HBW := Lib.hid hBw
      clear hx hin hgw hBw
      go_wp2_with fail
      refine (leapCells_any W H A n c xs a b x _ RR.out HG.out HL.out HXQ.out).mono ?_
      rintro e wv ⟨A3, n3, c3, rfl, hl3, hb⟩
      have hn3 : n3 ≤ 64 := by have := leapsL_len64 (W := W) (H := H) (xs := xs) (a := a) (b := b) (q := x) HN.out; have := hl3.len; omega
      have HL3 := Lib.hid hl3
      replace HM := Lib.hid (HM.out.keep hb)
      replace HR := Lib.hid (fun y hy => (HR.out y hy).keep hb)
      replace HGW := Lib.hid (grown_next HGW.out (grown_of_below hb (some mb)))
      have hsv := hb.size
      clear hl3 hb
      go_wp2_with (at_mapUpdate; refine wpList_updateK rfl (.tmp 16) (.tmp 17) (.tmp 21) rfl Try.underlying3 Try.underlying50 rfl HM.out (by omega) x (.slice A3 n3 c3) rfl rfl (wf_small ⟨HXR.out.1, by have := HXR.out.2; omega⟩) ?_; intro w2 hm2 hg2)
      have HM2 := Lib.hid hm2; have HG2 := Lib.hid hg2
      clear hm2 hg2
      go_wp2
      go_roundw
      case rel =>
        refine ⟨k + 1, _, by omega, by go_num, by rw [← take_key HX.out]; exact HM2.out, fun y hy => ?_, grown_next HGW.out HG2.out⟩
        rw [List.take_add_one, HX.out] at hy
        rcases List.mem_append.1 hy with hy | hy
        · have hne : y ≠ x := by
            have hp := cellsL_pairwise W H xs
            have hlen : k < (cellsL W H xs).length := by have := SL.out; omega
            rw [← List.take_append_drop k (cellsL W H xs), List.pairwise_append] at hp
            have hxd : x ∈ (cellsL W H xs).drop k := by
              rw [drop_cons_of HX.out]; exact List.mem_cons_self
            have := hp.2.2 y hy x hxd
            omega
          rw [if_neg hne]
          exact (HR.out y hy).other HG2.out
        · simp at hy
          subst hy
          rw [if_pos rfl]
          have hrow : RowAt _ w.heap.size mb (.slice A3 n3 c3) (leapsL W H xs a b y) := ⟨A3, n3, c3, rfl, HL3.out.rd, hn3, fun z hz => by
            rcases HL3.out.form with ⟨h, _⟩ | ⟨g, h, h2, h3, _⟩
            · rw [h] at hz; cases hz
            · rw [h] at hz; injection hz with hz; rw [← hz]; exact ⟨by show w.heap.size ≤ g; omega, h3, by show g ≠ mb; omega⟩⟩
          exact hrow.other HG2.out
      case measure => simp [intOf]; omega
    · have e2 : (cellsL W H xs).take k = cellsL W H xs := List.take_of_length_le (by have := SL.out; omega)
      have HBW := Lib.hid hBw
      have hk64 : k ≤ 64 := by omega
      have HRR := Lib.hid (show OnMapK wr w.heap.size mb (cellsL W H xs) (leapsL W H xs a b) from ⟨by omega, k, f, by omega, by have h := HM.out; rw [e2] at h; exact h, by rw [← e2]; exact HR.out⟩)
      clear e2 hBw hgw
      go_wp2
      go_ret
      exact ⟨mb, rfl, HRR.out, HBW.out⟩


end Go.Proofs.Ytmmfjmgjkbplpaa

namespace Go.Proofs.Ytmmfjmgjkbplpaa
open Go.RowKit

set_option maxRecDepth 100000 in
set_option maxHeartbeats 2000000 in
theorem impl_CountRoutes (W H : Int) (A : Option Addr) (n c : Nat) (xs : List Int) (a b : Int) (p : Int) (q : Int) (w : World) (ha : Rd w A n xs) :
    Calls Try.prog 19 #[brd W H A n c, lpr a b, .int .i64 p, .int .i64 q] w fun e w' => e = .returned (.tuple #[.int .i64 (crV W H xs a b p q), .bool (onB W H xs a b [p, q])]) ∧ Below w.heap.size w w' := by
  by_cases ho : onB W H xs a b [p, q] = true
  · have FO := on_facts (onB_two ho).1
    have HP := Lib.hid (onB_two ho).2.1
    have HQ := Lib.hid (onB_two ho).2.2
    obtain ⟨N, hN⟩ : ∃ N, N = (W * H).toNat := ⟨_, rfl⟩
    rw [← hN] at FO
    have hp0 := (hasB_iff.1 HP.out).1
    have hq0 := (hasB_iff.1 HQ.out).1
    rw [FO.wh] at hp0 hq0
    obtain ⟨s, rfl⟩ : ∃ s : Nat, p = (s : Int) := ⟨p.toNat, by omega⟩
    obtain ⟨t, rfl⟩ : ∃ t : Nat, q = (t : Int) := ⟨q.toNat, by omega⟩
    have hs : s < N := by omega
    have ht : t < N := by omega
    have HF := Lib.hid FO
    have n64 := FO.n.2
    have HD := Lib.hid (dist_at FO HP.out ht)
    have DLO := HD.out.2.1
    have DHI := HD.out.2.2
    have HO := Lib.hid ho
    have HFV := Lib.hid (fv_144 FO HP.out ht)
    obtain ⟨dv, hdv⟩ : ∃ dv, dv = distV W H xs a b (s : Int) (t : Int) := ⟨_, rfl⟩
    rw [← hdv] at DLO DHI
    have HDV := Lib.hid hdv
    have HT0 := Lib.hid (show 0 ≤ (t : Int) ∧ (t : Int) ≤ 144 by omega)
    clear FO hp0 hq0 hN hdv
    obtain ⟨W2, hW2⟩ : ∃ W2, W2 = ((w.alloc (.cells #[.int .i64 W, .int .i64 H, .slice A n c] 30)).alloc (.cells #[.int .i64 a, .int .i64 b] 32)).alloc (.cells #[.int .i64 (s : Int), .int .i64 (t : Int)] 3) := ⟨_, rfl⟩
    have hsz : W2.heap.size = w.heap.size + 3 := by rw [hW2]; simp
    have a0 : W2.cell? ⟨w.heap.size, 0, none⟩ = some (.int .i64 W) := by rw [hW2]; go_simp
    have a1 : W2.cell? ⟨w.heap.size, 1, none⟩ = some (.int .i64 H) := by rw [hW2]; go_simp
    have a2 : W2.cell? ⟨w.heap.size, 2, none⟩ = some (.slice A n c) := by rw [hW2]; go_simp
    have l0 : W2.cell? ⟨w.heap.size + 1, 0, none⟩ = some (.int .i64 a) := by rw [hW2]; go_simp
    have l1 : W2.cell? ⟨w.heap.size + 1, 1, none⟩ = some (.int .i64 b) := by rw [hW2]; go_simp
    have q0 : W2.cell? ⟨w.heap.size + 1 + 1, 0, none⟩ = some (.int .i64 (s : Int)) := by rw [hW2]; go_simp
    have q1 : W2.cell? ⟨w.heap.size + 1 + 1, 1, none⟩ = some (.int .i64 (t : Int)) := by rw [hW2]; go_simp
    have al : w.heap.size < W2.heap.size := by omega
    have ll : w.heap.size + 1 < W2.heap.size := by omega
    have B := Lib.hid (show Below w.heap.size w W2 by rw [hW2]; exact (((Below.refl _ _).alloc (Nat.le_refl _) _).alloc (by simp) _).alloc (by simp; omega) _)
    have RP := Lib.hid (show Rd W2 (some ⟨w.heap.size + 1 + 1, 0, none⟩) 2 [(s : Int), (t : Int)] from ⟨rfl, by omega, fun k hk => by
      have h2 : k = 0 ∨ k = 1 := by omega
      rcases h2 with rfl | rfl
      · exact ⟨_, 0, _, rfl, by omega, rfl, q0⟩
      · exact ⟨_, 0, _, rfl, by omega, rfl, q1⟩⟩)
    clear q0 q1
    go_enter Try.func19, Try.ntmps19
    go_wp2_with fail
    rw [← hW2]
    clear hW2
    refine (isLeaperOn_any W H A n c xs a b _ 2 2 _ W2 (ha.keep B.out) RP.out).mono ?_
    rw [ho]
    rintro e wv ⟨rfl, hb⟩
    replace a0 := cell_keep a0 al hb; replace a1 := cell_keep a1 al hb; replace a2 := cell_keep a2 al hb; replace l0 := cell_keep l0 ll hb; replace l1 := cell_keep l1 ll hb; replace al := lt_keep al hb; replace ll := lt_keep ll hb
    replace B := Lib.hid (below_next B.out hb)
    clear hb RP hsz
    go_wp2_with fail
    refine (onwardOfK_any W H A n c xs a b _ (ha.keep B.out) HF.out.g HF.out.l).mono ?_
    rintro e wx ⟨mb, rfl, hom, hb⟩
    replace B := Lib.hid (below_next B.out hb)
    have HOM := Lib.hid hom
    clear hb hom
    go_wp2_with fail
    refine (distance_any _ mb (cellsL W H xs) (leapsL W H xs a b) s t dv _ HOM.out.on (by omega) (cellsL_mem.2 HP.out) (cells_in HF.out) adj_in (by omega) (by rw [far64 HF.out HP.out, List.length_append, dist_len HF.out HP.out, List.length_replicate]; omega) (by rw [far64 HF.out HP.out, List.getElem?_append_left (by rw [dist_len HF.out HP.out]; exact ht), HDV.out]; exact HD.out.1) ⟨DLO, by omega⟩).mono ?_
    by_cases hneg : dv = -1
    · rw [show dOk dv = false by rw [dOk, hneg]; rfl, show dAns dv = 0 by rw [dAns, if_pos hneg]]
      rintro e wy ⟨rfl, hb⟩
      replace B := Lib.hid (below_next B.out hb)
      clear hb
      go_wp2
      go_ret2
      exact ⟨by rw [crV, if_pos HO.out, ← HDV.out, if_neg (by omega), HO.out]; rfl, B.out⟩
    · obtain ⟨L, hL⟩ : ∃ L : Nat, dv = (L : Int) := ⟨dv.toNat, by omega⟩
      rw [show dOk dv = true by rw [dOk, hL]; simp, show dAns dv = (L : Int) by rw [dAns, if_neg hneg, hL]]
      rintro e wy ⟨rfl, hb⟩
      replace B := Lib.hid (below_next B.out hb)
      replace HOM := Lib.hid (HOM.out.keep hb)
      have HL := Lib.hid hL
      have hL144 : L ≤ 144 := by omega
      clear hb hL
      go_wp2_with fail
      refine (nearerTo_any _ mb (cellsL W H xs) (leapsL W H xs a b) t _ HOM.out (by omega) (cellsL_mem.2 HQ.out) (cells_in HF.out) adj_in).mono ?_
      rintro e wz ⟨nb, rfl, hnm, hb⟩
      replace B := Lib.hid (below_next B.out hb)
      clear hb
      go_wp2_with fail
      refine (countPathsW_any _ nb (cellsL W H xs) (nearA (leapsL W H xs a b) (farL (leapsL W H xs a b) 144 (t : Int))) (s : Int) (t : Int) L _ hnm (cellsL_nodup W H xs) (cellsL_mem.2 HP.out) (cells_in HF.out) near_in (fun c => near_nodup W H xs a b _ c) hL144 HT0.out).mono ?_
      rintro e wu ⟨rfl, hb⟩
      replace B := Lib.hid (below_next B.out hb)
      clear hb hnm
      go_wp2
      go_ret2
      have h9 := (gr144 HF.out).routes (cellsL_mem.2 HP.out) (cellsL_mem.2 HQ.out) (by rw [HFV.out, ← HDV.out]; omega)
      rw [HFV.out, ← HDV.out, HL.out, Int.toNat_natCast] at h9
      exact ⟨by rw [crV, if_pos HO.out, ← HDV.out, HL.out, if_pos (by omega), Int.toNat_natCast, h9, HO.out]; rfl, B.out⟩
  · have ho' : onB W H xs a b [p, q] = false := by simpa using ho
    obtain ⟨W2, hW2⟩ : ∃ W2, W2 = ((w.alloc (.cells #[.int .i64 W, .int .i64 H, .slice A n c] 30)).alloc (.cells #[.int .i64 a, .int .i64 b] 32)).alloc (.cells #[.int .i64 p, .int .i64 q] 3) := ⟨_, rfl⟩
    have hsz : W2.heap.size = w.heap.size + 3 := by rw [hW2]; simp
    have a0 : W2.cell? ⟨w.heap.size, 0, none⟩ = some (.int .i64 W) := by rw [hW2]; go_simp
    have a1 : W2.cell? ⟨w.heap.size, 1, none⟩ = some (.int .i64 H) := by rw [hW2]; go_simp
    have a2 : W2.cell? ⟨w.heap.size, 2, none⟩ = some (.slice A n c) := by rw [hW2]; go_simp
    have l0 : W2.cell? ⟨w.heap.size + 1, 0, none⟩ = some (.int .i64 a) := by rw [hW2]; go_simp
    have l1 : W2.cell? ⟨w.heap.size + 1, 1, none⟩ = some (.int .i64 b) := by rw [hW2]; go_simp
    have q0 : W2.cell? ⟨w.heap.size + 1 + 1, 0, none⟩ = some (.int .i64 p) := by rw [hW2]; go_simp
    have q1 : W2.cell? ⟨w.heap.size + 1 + 1, 1, none⟩ = some (.int .i64 q) := by rw [hW2]; go_simp
    have al : w.heap.size < W2.heap.size := by omega
    have ll : w.heap.size + 1 < W2.heap.size := by omega
    have B := Lib.hid (show Below w.heap.size w W2 by rw [hW2]; exact (((Below.refl _ _).alloc (Nat.le_refl _) _).alloc (by simp) _).alloc (by simp; omega) _)
    have RP := Lib.hid (show Rd W2 (some ⟨w.heap.size + 1 + 1, 0, none⟩) 2 [p, q] from ⟨rfl, by omega, fun k hk => by
      have h2 : k = 0 ∨ k = 1 := by omega
      rcases h2 with rfl | rfl
      · exact ⟨_, 0, _, rfl, by omega, rfl, q0⟩
      · exact ⟨_, 0, _, rfl, by omega, rfl, q1⟩⟩)
    clear q0 q1
    go_enter Try.func19, Try.ntmps19
    go_wp2_with fail
    rw [← hW2]
    clear hW2
    refine (isLeaperOn_any W H A n c xs a b _ 2 2 _ W2 (ha.keep B.out) RP.out).mono ?_
    rw [ho']
    rintro e wv ⟨rfl, hb⟩
    replace a0 := cell_keep a0 al hb; replace a1 := cell_keep a1 al hb; replace a2 := cell_keep a2 al hb; replace l0 := cell_keep l0 ll hb; replace l1 := cell_keep l1 ll hb; replace al := lt_keep al hb; replace ll := lt_keep ll hb
    replace B := Lib.hid (below_next B.out hb)
    clear hb RP hsz
    go_wp2
    go_ret2
    exact ⟨by rw [crV, if_neg ho, ho']; rfl, B.out⟩

end Go.Proofs.Ytmmfjmgjkbplpaa

namespace Go.Proofs.Ytmmfjmgjkbplpaa
open Go.RowKit

set_option maxHeartbeats 4000000 in
set_option maxRecDepth 100000 in
theorem law_CountRoutes (w : World) (V0 G0 : Int) (A0 : Option Addr) (n0 c0 : Nat) (xs0 : List Int) (ha0 : Rd w A0 n0 xs0) (la1 lb1 : Int) (q2 : Int) (q3 : Int) :
    Calls Try.prog 5 #[brd V0 G0 A0 n0 c0, lpr la1 lb1, .int .i64 q2, .int .i64 q3] w fun e w' => e = .returned (.bool true) ∧ Below w.heap.size w w' := by
  have hn9 := ha0.2.1
  by_cases hnB : (n0 : Int) ≤ 1048576
  rotate_left
  · go_enter Try.func5, Try.ntmps5
    go_wp2_with fail
    refine (szBoard_any _ _ _ _ _ _ _ hn9 (by omega) (by omega)).mono ?_
    rintro e wv ⟨rfl, hb⟩
    have B := Lib.hid (below_box (below_box hb))
    clear hb
    go_wp2
    go_ret
    exact ⟨rfl, B.out⟩
  · go_enter Try.func5, Try.ntmps5
    go_wp2_with fail
    refine (szBoard_any _ _ _ _ _ _ _ hn9 (by omega) (by omega)).mono ?_
    rintro e wv ⟨rfl, hb⟩
    have hbx0 := below_box hb
    have a0 : wv.cell? ⟨w.heap.size, 0, none⟩ = some (.int .i64 V0) := by simpa using newbox hbx0 0
    have a1 : wv.cell? ⟨w.heap.size, 1, none⟩ = some (.int .i64 G0) := by simpa using newbox hbx0 1
    have a2 : wv.cell? ⟨w.heap.size, 2, none⟩ = some (.slice A0 n0 c0) := by simpa using newbox hbx0 2
    have al : w.heap.size < wv.heap.size := by simpa using newbox_lt hbx0
    have l0 : wv.cell? ⟨w.heap.size + 1, 0, none⟩ = some (.int .i64 la1) := by simpa using newbox hb 0
    have l1 : wv.cell? ⟨w.heap.size + 1, 1, none⟩ = some (.int .i64 lb1) := by simpa using newbox hb 1
    have ll : w.heap.size + 1 < wv.heap.size := by simpa using newbox_lt hb
    have B := Lib.hid (below_box hbx0)
    have hs1 := Lib.hid (below_box hbx0).size
    have hz := Lib.hid ll
    clear hb hbx0
    go_wp2_with fail
    go_region_held3 (fun w' => w'.cell? ⟨w.heap.size, 0, none⟩ = some (.int .i64 V0) ∧ w'.cell? ⟨w.heap.size, 1, none⟩ = some (.int .i64 G0) ∧ w'.cell? ⟨w.heap.size, 2, none⟩ = some (.slice A0 n0 c0) ∧ w'.cell? ⟨w.heap.size + 1, 0, none⟩ = some (.int .i64 la1) ∧ w'.cell? ⟨w.heap.size + 1, 1, none⟩ = some (.int .i64 lb1)) (first | exact ⟨a0, a1, a2, l0, l1⟩)
      (first
        | (go_at_call 8; refine (toBoard_any _ _ _ _ _ _ _ (by exact (ha0.keep B.out).drew1) (by omega)).mono ?_; rintro e wv ⟨gs, rfl, owns, hb⟩; (try replace hb := below_undrew hb); replace a0 := cell_keep a0 al hb; replace a1 := cell_keep a1 al hb; replace a2 := cell_keep a2 al hb; replace al := lt_keep al hb; replace l0 := cell_keep l0 ll hb; replace l1 := cell_keep l1 ll hb; replace ll := lt_keep ll hb; (try replace Os := Lib.hid (Os.out.keep hb)); have hs2 := Lib.hid hb.size; replace B := Lib.hid (below_next B.out hb); have Os := Lib.hid owns; have SPs := Lib.hid owns.span; clear owns; clear hb)
        | (go_at_call 9; refine (toLeaper_any _ _ _).mono ?_; rintro e wv ⟨rfl, hb⟩; (try replace hb := below_undrew hb); replace a0 := cell_keep a0 al hb; replace a1 := cell_keep a1 al hb; replace a2 := cell_keep a2 al hb; replace al := lt_keep al hb; replace l0 := cell_keep l0 ll hb; replace l1 := cell_keep l1 ll hb; replace ll := lt_keep ll hb; (try replace Os := Lib.hid (Os.out.keep hb)); have hs3 := Lib.hid hb.size; replace B := Lib.hid (below_next B.out hb); clear hb)
        | (go_at_call 18; refine (spec_CountRoutes _ _ _ _ _ _ _ _ _ _ _ (by exact Os.out.rd)).mono ?_; rintro e wv ⟨rfl, hb⟩; (try replace hb := below_undrew hb); replace a0 := cell_keep a0 al hb; replace a1 := cell_keep a1 al hb; replace a2 := cell_keep a2 al hb; replace al := lt_keep al hb; replace l0 := cell_keep l0 ll hb; replace l1 := cell_keep l1 ll hb; replace ll := lt_keep ll hb; have hs4 := Lib.hid hb.size; replace B := Lib.hid (below_next B.out hb); clear hb))
    all_goals
      clear Os SPs
      go_wp2_with fail
      refine (toBoard_any _ _ _ _ _ _ _ (ha0.keep B.out) (by omega)).mono ?_
      rintro e wv ⟨gx, rfl, ownx, hb⟩
      replace a0 := cell_keep a0 al hb
      replace a1 := cell_keep a1 al hb
      replace a2 := cell_keep a2 al hb
      replace al := lt_keep al hb
      replace l0 := cell_keep l0 ll hb
      replace l1 := cell_keep l1 ll hb
      replace ll := lt_keep ll hb
      have hs5 := Lib.hid hb.size
      replace B := Lib.hid (below_next B.out hb)
      have Ox := Lib.hid ownx; have SPx := Lib.hid ownx.span; clear ownx; clear hb
      obtain ⟨wx, hwx⟩ : ∃ wx, wx = wv := ⟨_, rfl⟩
      subst hwx
      go_wp2_with fail
      have hb := Below.refl (wx.alloc (.cells #[.int .i64 V0, .int .i64 G0, .slice (some ⟨gx, 0, none⟩) n0 n0] 30)).heap.size (wx.alloc (.cells #[.int .i64 V0, .int .i64 G0, .slice (some ⟨gx, 0, none⟩) n0 n0] 30))
      have x0 : (wx.alloc (.cells #[.int .i64 V0, .int .i64 G0, .slice (some ⟨gx, 0, none⟩) n0 n0] 30)).cell? ⟨wx.heap.size, 0, none⟩ = some (.int .i64 V0) := by simp
      have x1 : (wx.alloc (.cells #[.int .i64 V0, .int .i64 G0, .slice (some ⟨gx, 0, none⟩) n0 n0] 30)).cell? ⟨wx.heap.size, 1, none⟩ = some (.int .i64 G0) := by simp
      have x2 : (wx.alloc (.cells #[.int .i64 V0, .int .i64 G0, .slice (some ⟨gx, 0, none⟩) n0 n0] 30)).cell? ⟨wx.heap.size, 2, none⟩ = some (.slice (some ⟨gx, 0, none⟩) n0 n0) := by simp
      have xl := newbox_lt hb
      have hzx := Lib.hid xl
      replace hb := below_box hb
      replace a0 := cell_keep a0 al hb
      replace a1 := cell_keep a1 al hb
      replace a2 := cell_keep a2 al hb
      replace al := lt_keep al hb
      replace l0 := cell_keep l0 ll hb
      replace l1 := cell_keep l1 ll hb
      replace ll := lt_keep ll hb
      replace Ox := Lib.hid (Ox.out.keep hb)
      have hs6 := Lib.hid hb.size
      replace B := Lib.hid (below_next B.out hb)
      clear hb
      have hx0 : gx < wx.heap.size := (SPx.out _ rfl).2
      generalize wx.alloc (.cells #[.int .i64 V0, .int .i64 G0, .slice (some ⟨gx, 0, none⟩) n0 n0] 30) = wv at *
      generalize hx : wx.heap.size = x at *
      go_wp2_with fail
      go_region_held3 (fun w' => w'.cell? ⟨w.heap.size, 0, none⟩ = some (.int .i64 V0) ∧ w'.cell? ⟨w.heap.size, 1, none⟩ = some (.int .i64 G0) ∧ w'.cell? ⟨w.heap.size, 2, none⟩ = some (.slice A0 n0 c0) ∧ w'.cell? ⟨w.heap.size + 1, 0, none⟩ = some (.int .i64 la1) ∧ w'.cell? ⟨w.heap.size + 1, 1, none⟩ = some (.int .i64 lb1) ∧ w'.cell? ⟨x, 0, none⟩ = some (.int .i64 V0) ∧ w'.cell? ⟨x, 1, none⟩ = some (.int .i64 G0) ∧ w'.cell? ⟨x, 2, none⟩ = some (.slice (some ⟨gx, 0, none⟩) n0 n0)) (first | exact ⟨a0, a1, a2, l0, l1, x0, x1, x2⟩)
        (first
          | (go_at_call 9; refine (toLeaper_any _ _ _).mono ?_; rintro e wv ⟨rfl, hb⟩; (try replace hb := below_undrew hb); replace a0 := cell_keep a0 al hb; replace a1 := cell_keep a1 al hb; replace a2 := cell_keep a2 al hb; replace al := lt_keep al hb; replace l0 := cell_keep l0 ll hb; replace l1 := cell_keep l1 ll hb; replace ll := lt_keep ll hb; replace x0 := cell_keep x0 xl hb; replace x1 := cell_keep x1 xl hb; replace x2 := cell_keep x2 xl hb; replace xl := lt_keep xl hb; replace Ox := Lib.hid (Ox.out.keep hb); have hs7 := Lib.hid hb.size; replace B := Lib.hid (below_next B.out hb); clear hb)
          | (go_at_call 19; refine (impl_CountRoutes _ _ _ _ _ _ _ _ _ _ _ (by exact Ox.out.rd)).mono ?_; rintro e wv ⟨rfl, hb⟩; (try replace hb := below_undrew hb); replace a0 := cell_keep a0 al hb; replace a1 := cell_keep a1 al hb; replace a2 := cell_keep a2 al hb; replace al := lt_keep al hb; replace l0 := cell_keep l0 ll hb; replace l1 := cell_keep l1 ll hb; replace ll := lt_keep ll hb; replace x0 := cell_keep x0 xl hb; replace x1 := cell_keep x1 xl hb; replace x2 := cell_keep x2 xl hb; replace xl := lt_keep xl hb; replace Ox := Lib.hid (Ox.out.keep hb); have hs8 := Lib.hid hb.size; replace B := Lib.hid (below_next B.out hb); clear hb))
      go_wp2_with fail
      go_region_held3 (fun w' => w'.cell? ⟨w.heap.size, 0, none⟩ = some (.int .i64 V0) ∧ w'.cell? ⟨w.heap.size, 1, none⟩ = some (.int .i64 G0) ∧ w'.cell? ⟨w.heap.size, 2, none⟩ = some (.slice A0 n0 c0) ∧ w'.cell? ⟨w.heap.size + 1, 0, none⟩ = some (.int .i64 la1) ∧ w'.cell? ⟨w.heap.size + 1, 1, none⟩ = some (.int .i64 lb1) ∧ w'.cell? ⟨x, 0, none⟩ = some (.int .i64 V0) ∧ w'.cell? ⟨x, 1, none⟩ = some (.int .i64 G0) ∧ w'.cell? ⟨x, 2, none⟩ = some (.slice (some ⟨gx, 0, none⟩) n0 n0)) (first | exact ⟨a0, a1, a2, l0, l1, x0, x1, x2⟩)
        (first
          | (go_at_call 8; refine (toBoard_any _ _ _ _ _ _ _ (by exact (ha0.keep B.out).drew1) (by omega)).mono ?_; rintro e wv ⟨gy, rfl, owny, hb⟩; (try replace hb := below_undrew hb); replace a0 := cell_keep a0 al hb; replace a1 := cell_keep a1 al hb; replace a2 := cell_keep a2 al hb; replace al := lt_keep al hb; replace l0 := cell_keep l0 ll hb; replace l1 := cell_keep l1 ll hb; replace ll := lt_keep ll hb; replace x0 := cell_keep x0 xl hb; replace x1 := cell_keep x1 xl hb; replace x2 := cell_keep x2 xl hb; replace xl := lt_keep xl hb; replace Ox := Lib.hid (Ox.out.keep hb); have hs9 := Lib.hid hb.size; replace B := Lib.hid (below_next B.out hb); have Oy := Lib.hid owny; have SPy := Lib.hid owny.span; clear owny; clear hb)
          | (go_at_call 11; refine (eqBoard_any _ _ _ _ _ _ _ _ _ _ _ Ox.out.rd Oy.out.rd).mono ?_; simp only [decide_true]; rintro e wv ⟨rfl, hb⟩; (try replace hb := below_undrew hb); replace a0 := cell_keep a0 al hb; replace a1 := cell_keep a1 al hb; replace a2 := cell_keep a2 al hb; replace al := lt_keep al hb; replace l0 := cell_keep l0 ll hb; replace l1 := cell_keep l1 ll hb; replace ll := lt_keep ll hb; replace x0 := cell_keep x0 xl hb; replace x1 := cell_keep x1 xl hb; replace x2 := cell_keep x2 xl hb; replace xl := lt_keep xl hb; replace Ox := Lib.hid (Ox.out.keep hb); have hs10 := Lib.hid hb.size; replace B := Lib.hid (below_next B.out hb); clear hb Oy SPy))
      go_wp2
      go_ret
      exact ⟨rfl, B.out⟩

end Go.Proofs.Ytmmfjmgjkbplpaa
