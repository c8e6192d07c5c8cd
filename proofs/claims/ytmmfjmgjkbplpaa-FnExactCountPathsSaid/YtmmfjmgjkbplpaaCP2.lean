/-
  Contracts: paths counted by their leaps, in the program.
-/
import Derived.Test.YtmmfjmgjkbplpaaCP0
import Derived.Test.YtmmfjmgjkbplpaaCP1
import Derived.Test.YtmmfjmgjkbplpaaT2a
import Derived.Test.YtmmfjmgjkbplpaaQ2
namespace Go.Proofs.Ytmmfjmgjkbplpaa
open Go.RowKit Go.Maps

theorem zero_intC : ∀ w, (zeroValue 3).run Try.prog w = .ok (.int .i64 0) w := fun _ => by kernel_rfl
/-- The row of a cell lies below what the call makes. -/
theorem row_off {w w6 : World} {lo mb ab : Nat} {cells : List Int} {adj : Int → List Int} (h : OnMap w lo mb cells adj) (hb : Below w.heap.size w w6) {x : Int} (hx : x ∈ cells) (hr : 0 ≤ x ∧ x < 144) {A : Option Addr} {n c : Nat}
    (hl : (Instr.lookup 50 (.map (some mb)) (.int .i64 x) false).run Try.prog w6 = .ok (.slice A n c) w6) (hab : w.heap.size ≤ ab) : ∀ a, A = some a → some a.block ≠ some ab := by
  obtain ⟨_, m, f, _, h2, h3⟩ := h
  obtain ⟨A', n', c', hv, _, _, h5⟩ := h3 x hx
  have h6 := (h2.keep hb).lookup Try.underlying3 Try.underlying50 (zero_ints w6) (wf_small (x := x) (by omega))
  rw [h6, hv] at hl
  injection hl with hl _
  injection hl with e1 _ _
  intro a ha e
  injection e with e
  have := (h5 a (e1.trans ha)).2.1
  omega

set_option maxRecDepth 100000 in
set_option maxHeartbeats 4000000 in
theorem countPaths_any (lo0 mb : Nat) (cells : List Int) (adj : Int → List Int) (s t : Int) (L : Nat) (w : World) (hm : OnMap w lo0 mb cells adj) (hn : cells.Nodup) (hs : s ∈ cells) (hcl : ∀ x ∈ cells, 0 ≤ x ∧ x < 144) (hadj : ∀ x, ∀ y ∈ adj x, y ∈ cells) (hnd : ∀ c, (adj c).Nodup) (hin : ∀ y, (cells.filter fun c => (adj c).contains y).length ≤ 8) (hL : L ≤ 12) (htr : 0 ≤ t ∧ t ≤ 144) :
    Calls Try.prog 28 #[.map (some mb), .int .i64 s, .int .i64 t, .int .i64 (L : Int)] w fun e w' => e = .returned (.int .i64 (waysK cells adj s L t)) ∧ Below w.heap.size w w' := by
  have HOM := Lib.hid hm; have HCN := Lib.hid hn; have HSC := Lib.hid hs; have HCL := Lib.hid hcl; have HADJ := Lib.hid hadj; have HND := Lib.hid hnd; have HIN := Lib.hid hin
  have hsr := hcl s hs
  have hm0 := MapK.made Try.prog 3 w (.int .i64 0)
  have hmm := @run_makeMap Try.prog
  have HWS := Lib.hid (show (Lit.int .i64 s).wf = true from wf_small (by omega))
  have HMBLT := Lib.hid hm.lt
  have hb0 : Below w.heap.size w (w.alloc (.map #[] 0)) := below_new (Below.refl _ _) _
  have HM0 := Lib.hid hm0; have HB00 := Lib.hid hb0
  clear hm hn hs hcl hadj hnd hin hm0 hb0
  go_enter Try.func28, Try.ntmps28
  go_wp2_with (refine wpList_insertK rfl (.tmp 15) (.tmp 16) (.const (.int .i64 1)) rfl Try.underlying3 Try.underlying62 rfl HM0.out (by omega) s (.int .i64 1) rfl rfl HWS.out ?_; intro w1 hm1 hg1)
  have HM1 := Lib.hid (show MapK Try.prog 3 w1 w.heap.size (0 + 1) (.int .i64 0) (fun y => .int .i64 (waysK cells adj s 0 y)) (fun y => if y = s then true else false) by
    have e : (fun y => Value.int .i64 (waysK cells adj s 0 y)) = fun y => if y = s then Value.int .i64 1 else Value.int .i64 0 := by
      funext y; rw [waysK]; split <;> rfl
    rw [e]; exact hm1)
  have HB1 := Lib.hid (HB00.out.grown hg1 HB00.out.size (fun g h => by injection h with h; omega))
  clear hm1 hg1
  have HKS := Lib.hid (show ∀ x, (if x = s then true else false) = true → x ∈ cells from fun x hx => by
    by_cases e : x = s
    · rw [e]; exact HSC.out
    · rw [if_neg e] at hx; exact absurd hx (by simp))
  go_wp2
  go_loopw [9, 19] (fun s9 i wr => ∃ (k eb n : Nat) (ks : Int → Bool), k ≤ L ∧ i = .int .i64 k ∧ s9 = .map (some eb) ∧ w.heap.size ≤ eb ∧ MapK Try.prog 3 wr eb n (.int .i64 0) (fun y => .int .i64 (waysK cells adj s k y)) ks ∧ n ≤ 50000 ∧ (∀ x, ks x = true → x ∈ cells) ∧ Below w.heap.size w wr) (fun _ i _ => L - (intOf i).toNat)
  case atStart => exact ⟨0, w.heap.size, 0 + 1, _, Nat.zero_le _, rfl, rfl, Nat.le_refl _, HM1.out, by omega, HKS.out, HB1.out⟩
  case round =>
    clear HM1 HB1 HM0 HB00 HKS
    obtain ⟨k, eb, n, ks, hk, rfl, rfl, heb, hme, hn5, hkc, hbr⟩ := hrel
    have HME := Lib.hid hme; have HKC := Lib.hid hkc; have HBR := Lib.hid hbr
    have heblt := hme.lt
    have hszr := hbr.size
    clear hme hkc hbr
    by_cases hlt : k < L
    · obtain ⟨F, hF⟩ : ∃ F, F = waysK cells adj s k := ⟨_, rfl⟩
      have HFE := Lib.hid hF
      have HFB := Lib.hid (show ∀ y, 0 ≤ F y ∧ F y ≤ 68719476736 from fun y => by
        rw [hF]
        have h1 := waysK_bd HIN.out s k y
        have h2 : 8 ^ k ≤ 8 ^ 12 := Nat.pow_le_pow_right (by decide) (by omega)
        have h3 : (8 : Nat) ^ 12 = 68719476736 := by decide
        omega)
      rw [← hF] at HME
      clear hF
      have k0 : (0 : Int) ≤ (k : Int) := by omega
      have kL : (k : Int) < (L : Int) := by omega
      have HEA := Lib.hid (show MapK Try.prog 3 (wr.alloc (.map #[] 0)) eb n (.int .i64 0) (fun y => .int .i64 (F y)) ks from HME.out.keep (below_new (Below.refl _ _) _))
      have HAA := Lib.hid (MapK.made Try.prog 3 wr (.int .i64 0))
      have HBA := Lib.hid (HBR.out.alloc HBR.out.size (.map #[] 0))
      go_wp2_with (at_range; refine wpList_rangeI rfl (.tmp 22) rfl Try.underlying3 Try.underlying62 rfl HEA.out ?_; intro w0 cnt0 hr0 hf0 hg0 hs0)
      have HR00 := Lib.hid hr0
      have HF0 := Lib.hid (show ∀ x, ks x = false → F x = 0 from fun x hx => by have h := hf0 x hx; injection h)
      have HB0 := Lib.hid (HBA.out.grown hg0 HBA.out.size (fun g h => by cases h))
      obtain ⟨ab, hab⟩ : ∃ ab, ab = wr.heap.size := ⟨_, rfl⟩
      have HA0 := Lib.hid (show MapK Try.prog 3 w0 ab 0 (.int .i64 0) (fun _ => .int .i64 0) (fun _ => false) by rw [hab]; exact HAA.out.other hg0 (by simp))
      obtain ⟨rr, hrr⟩ : ∃ rr, rr = ab + 1 := ⟨_, rfl⟩
      have HR0 := Lib.hid (show RangesI Try.prog 3 w0 eb rr n (.int .i64 0) (fun y => .int .i64 (F y)) ks cnt0 by rw [hrr, hab]; have h := HR00.out; rw [World.size_alloc] at h; exact h)
      have HRR := Lib.hid (show w.heap.size ≤ rr by omega)
      have HNE := Lib.hid (show eb ≠ ab ∧ rr ≠ ab ∧ w.heap.size ≤ ab from ⟨by omega, by omega, by omega⟩)
      have HOFF := Lib.hid (fun (w6 : World) (hb6 : Below w.heap.size w w6) (x : Int) (hx : x ∈ cells) (A3 : Option Addr) (n3 c3 : Nat) (hl : (Instr.lookup 50 (.map (some mb)) (.int .i64 x) false).run Try.prog w6 = .ok (.slice A3 n3 c3) w6) => row_off HOM.out hb6 hx (HCL.out x hx) hl HNE.out.2.2)
      have hsz9 : wr.heap.size = ab := hab.symm
      have hrr2 : (wr.alloc (.map #[] 0)).heap.size = rr := by rw [World.size_alloc]; omega
      rw [hrr2]
      (try rw [hsz9])
      clear hr0 hf0 hg0 hs0 HEA HAA HBA HR00 heb HME HBR hab hsz9 hrr hrr2
      have HNIL := Lib.hid (show ∀ x ∈ ([] : List Int), x ∈ cells ∧ ks x = false from fun x h => absurd h (by simp))
      have HNO := Lib.hid (show ∀ y : Int, false = true → y ∈ cells from fun _ h => absurd h (by simp))
      have HA1 := Lib.hid (show MapK Try.prog 3 w0 ab 0 (.int .i64 0) (fun y => .int .i64 (partW cells adj (fun c => ([] : List Int).contains c) F y)) (fun _ => false) by
        have e : (fun y => Value.int .i64 (partW cells adj (fun c => ([] : List Int).contains c) F y)) = fun _ => Value.int .i64 0 := by funext y; rw [partW_none (P := fun c => ([] : List Int).contains c) adj F y cells (fun _ _ => by simp)]
        rw [e]; exact HA0.out)
      go_frame
      go_loopw [11, 12] (fun _ _ w5 => ∃ (cnt : Nat) (left : Int → Bool) (vis : List Int) (m : Nat) (ks2 : Int → Bool), RangesI Try.prog 3 w5 eb rr n (.int .i64 0) (fun y => .int .i64 (F y)) left cnt ∧ (∀ x, left x = true → ks x = true) ∧ vis.Nodup ∧ (∀ x ∈ vis, x ∈ cells ∧ left x = false) ∧ (∀ x, left x = false → x ∉ vis → F x = 0) ∧ MapK Try.prog 3 w5 ab m (.int .i64 0) (fun y => .int .i64 (partW cells adj (fun c => vis.contains c) F y)) ks2 ∧ (∀ y, ks2 y = true → y ∈ cells) ∧ m ≤ 144 * vis.length ∧ Below w.heap.size w w5) (fun _ _ w5 => w5.rangeLeft eb rr)
      case atStart => exact ⟨cnt0, ks, [], 0, fun _ => false, HR0.out, fun _ h => h, List.nodup_nil, HNIL.out, fun x h _ => HF0.out x h, HA1.out, HNO.out, Nat.zero_le _, HB0.out⟩
      case round =>
        clear HR0 HA0 HA1 HB0 HF0 HNIL HNO
        obtain ⟨cnt, left, vis, m, ks2, hr5, hlk, hvn, hvi, hz0, hmb, hkb, hm5, hb5⟩ := hrel
        have HR5 := Lib.hid hr5; have HLK := Lib.hid hlk; have HVN := Lib.hid hvn; have HVI := Lib.hid hvi; have HZ0 := Lib.hid hz0; have HMB5 := Lib.hid hmb; have HKB := Lib.hid hkb; have HM5 := Lib.hid hm5; have HB5 := Lib.hid hb5
        have HV5 := Lib.hid (show vis.length ≤ 144 from nodup_len hvn (fun z hz => HCL.out z (HVI.out z hz).1))
        clear hr5 hlk hvn hvi hz0 hmb hkb hm5 hb5
        go_wp2_with (at_next; refine wpList_nextI rfl (.tmp 23) rfl Try.underlying3 rfl HR5.out ?_ ?_)
        · intro hdone
          have HD := Lib.hid hdone
          have HMF := Lib.hid (show MapK Try.prog 3 _ ab m (.int .i64 0) (fun y => .int .i64 (waysK cells adj s (k + 1) y)) ks2 by
            have e : (fun y => Value.int .i64 (waysK cells adj s (k + 1) y)) = fun y => Value.int .i64 (partW cells adj (fun c => vis.contains c) F y) := by
              funext y
              rw [waysK, ← HFE.out, partW_all (fun c _ hc => HZ0.out c (HD.out c) (by simpa using hc))]
            rw [e]; exact HMB5.out)
          clear hdone
          go_wp2
          go_roundw
          case rel => exact ⟨k + 1, ab, m, ks2, by omega, by go_num, rfl, HNE.out.2.2, HMF.out, by have := HM5.out; have := HV5.out; omega, HKB.out, HB5.out⟩
          case measure => simp [intOf]; omega
        · intro x w6 cnt6 hwx hlx hr6 hlt hg6 hs6 hen
          have HXC := Lib.hid (HKC.out x (HLK.out x hlx))
          have HLX := Lib.hid hlx; have HR6 := Lib.hid hr6; have HLT := Lib.hid hlt
          have HB6 := Lib.hid (HB5.out.grown hg6 HB5.out.size (fun g h => by injection h with h; have := HRR.out; omega))
          have HMB6 := Lib.hid (HMB5.out.other hg6 (by have := HNE.out.2.1; simp; omega))
          have hxr := HCL.out x HXC.out
          obtain ⟨A3, n3, c3, hlk1, hrd, hn3⟩ := (HOM.out.keep HB6.out).lookup HXC.out (by omega)
          have HRD := Lib.hid hrd; have HN3 := Lib.hid hn3
          have HAB := Lib.hid (HOFF.out w6 HB6.out x HXC.out A3 n3 c3 hlk1)
          obtain ⟨p, hp⟩ : ∃ p, p = F x := ⟨_, rfl⟩
          have HPE := Lib.hid hp
          have HPB := Lib.hid (show 0 ≤ p ∧ p ≤ 68719476736 by rw [hp]; exact HFB.out x)
          rw [← hp] at hen
          obtain ⟨B, hB⟩ : ∃ B, B = partW cells adj (fun c => vis.contains c) F := ⟨_, rfl⟩
          have HBE := Lib.hid hB
          have HBB := Lib.hid (show ∀ y, 0 ≤ B y ∧ B y ≤ 8 * 68719476736 from fun y => by rw [hB]; exact partW_bd HIN.out HFB.out _ y)
          rw [← hB] at HMB6
          have HMB := HMB6
          clear hlx hr6 hlt hg6 hs6 hrd hp hB hxr HMB5 HMB6 HB5
          go_wp2
          go_loopw [33] (fun i w7 => ∃ (j : Nat) (ks3 : Int → Bool), j ≤ n3 ∧ i = .int .i64 j ∧ MapK Try.prog 3 w7 ab (m + j) (.int .i64 0) (fun y => .int .i64 (addRow B (adj x) p j y)) ks3 ∧ (∀ y, ks3 y = true → y ∈ cells) ∧ w6.grownBy w7 (some ab)) (fun i _ => n3 - (intOf i).toNat)
          case atStart => exact ⟨0, ks2, Nat.zero_le _, rfl, by rw [addRow_zero]; exact HMB.out, HKB.out, grown_refl _ _⟩
          case round =>
            obtain ⟨j, ks3, hj, rfl, hma, hka, hg7⟩ := hrel
            have HMA := Lib.hid hma; have HKA := Lib.hid hka; have HG7 := Lib.hid hg7
            clear hma hka
            by_cases hjl : j < n3
            · obtain ⟨b3, o3, y, he3, hg3, hy, y0⟩ := (HRD.out.other hg7 (HAB.out)).at_ hjl
              have HY := Lib.hid hy
              have hyc := HADJ.out x y (List.mem_of_getElem? hy)
              have HYC := Lib.hid hyc
              have hyr := HCL.out y hyc
              have HWF := Lib.hid (show (Lit.int .i64 y).wf = true from wf_small (by omega))
              have hlk2 : (Instr.lookup 62 (.map (some ab)) (.int .i64 y) false).run Try.prog wr = .ok (.int .i64 (addRow B (adj x) p j y)) wr := HMA.out.map.lookup Try.underlying3 Try.underlying62 (zero_intC wr) HWF.out
              have hbd : 0 ≤ addRow B (adj x) p j y ∧ addRow B (adj x) p j y + p ≤ 8 * 68719476736 + 2 * 68719476736 := by
                have h1 := HBB.out y; have h2 := HPB.out
                unfold addRow; split <;> omega
              obtain ⟨q, hq⟩ : ∃ q, q = addRow B (adj x) p j y := ⟨_, rfl⟩
              rw [← hq] at hlk2 hbd
              have HQ := Lib.hid hq
              obtain ⟨u, hu⟩ : ∃ u, u = wrap64 (q + p) := ⟨_, rfl⟩
              have HU := Lib.hid (show u = q + p by rw [hu]; have := HPB.out; unfold wrap64; omega)
              have HUU := Lib.hid hu
              subst he3
              have j0 : (0 : Int) ≤ (j : Int) := by omega
              have jn : (j : Int) < (n3 : Int) := by omega
              clear hq hy hyc hyr hg7 hbd hu
              go_wp2_with (at_mapUpdate; refine wpList_updateK rfl (.tmp 37) (.tmp 38) (.tmp 41) rfl Try.underlying3 Try.underlying62 rfl HMA.out (by have := HM5.out; have := HV5.out; omega) y (.int .i64 u) rfl (by rw [HUU.out]; rfl) HWF.out ?_; intro w8 hm8 hg8)
              have HM8 := Lib.hid hm8; have HG8 := Lib.hid hg8
              clear hm8 hg8 hlk2
              go_wp2
              go_roundw
              case rel =>
                refine ⟨j + 1, fun z => if z = y then true else ks3 z, by omega, by go_num, ?_, fun z hz => ?_, grown_next HG7.out HG8.out⟩
                · have e : (fun y9 => Value.int .i64 (addRow B (adj x) p (j + 1) y9)) = fun y9 => if y9 = y then Value.int .i64 u else Value.int .i64 (addRow B (adj x) p j y9) := by
                    rw [addRow_next (HND.out x) HY.out]
                    funext y9
                    show Value.int .i64 (if y9 = y then addRow B (adj x) p j y + p else addRow B (adj x) p j y9) = _
                    by_cases e : y9 = y
                    · rw [if_pos e, if_pos e, HU.out, HQ.out]
                    · rw [if_neg e, if_neg e]
                  rw [e]; exact HM8.out
                · by_cases e : z = y
                  · rw [e]; exact HYC.out
                  · exact HKA.out z (by have h9 : (if z = y then true else ks3 z) = true := hz; rw [if_neg e] at h9; exact h9)
              case measure => simp [intOf]; omega
            · have HJ := Lib.hid (show j = n3 by omega)
              have jn : ¬ (j : Int) < (n3 : Int) := by omega
              have HRG := Lib.hid (HR6.out.kept hg7 (by have := HNE.out.1; simp; omega) (by have := HNE.out.2.1; simp; omega))
              have hsw := hg7.size
              have HB7 := Lib.hid (HB6.out.grown hg7 HB6.out.size (fun g h => by injection h with h; have := HNE.out.2.2; omega))
              clear hg7
              go_wp2
              go_roundw
              case rel =>
                refine ⟨cnt6, fun y => left y && !(y == x), x :: vis, m + j, ks3, HRG.out, fun z hz => ?_, ?_, fun z hz => ?_, fun z hz hv => ?_, ?_, HKA.out, ?_, HB7.out⟩
                · rw [Bool.and_eq_true] at hz; exact HLK.out z hz.1
                · rw [List.nodup_cons]; exact ⟨(fun h => by have h9 := (HVI.out x h).2; rw [HLX.out] at h9; exact absurd h9 (by simp)), HVN.out⟩
                · rcases List.mem_cons.1 hz with rfl | hz
                  · exact ⟨HXC.out, by simp⟩
                  · exact ⟨(HVI.out z hz).1, by show (left z && !(z == x)) = false; rw [(HVI.out z hz).2]; rfl⟩
                · rw [List.mem_cons, not_or] at hv
                  refine HZ0.out z ?_ hv.2
                  rw [Bool.and_eq_false_iff] at hz
                  rcases hz with hz | hz
                  · exact hz
                  · simp at hz; exact absurd hz hv.1
                · have e : (fun y9 => Value.int .i64 (partW cells adj (fun c => (x :: vis).contains c) F y9)) = fun y9 => Value.int .i64 (addRow B (adj x) p j y9) := by
                    funext y9
                    rw [addRow_all B (adj x) p (by have := HRD.out.1; have := HJ.out; omega), HBE.out, HPE.out, partW_more (P := fun c => vis.contains c) HCN.out HXC.out (by simpa using fun h => (by have h9 := (HVI.out x h).2; rw [HLX.out] at h9; exact absurd h9 (by simp))) (by simp) (fun c _ hne => by simp [hne])]
                  rw [e]; exact HMA.out
                · have := HM5.out; have := HN3.out; have := HJ.out; rw [List.length_cons]; omega
              case measure => rw [HRG.out.left_eq, HR5.out.left_eq]; have := HLT.out; omega
    · have HKL := Lib.hid (show k = L by omega)
      have kL : ¬ (k : Int) < (L : Int) := by omega
      have hlkt : (Instr.lookup 62 (.map (some eb)) (.int .i64 t) false).run Try.prog wr = .ok (.int .i64 (waysK cells adj s k t)) wr := HME.out.map.lookup Try.underlying3 Try.underlying62 (zero_intC wr) (wf_small htr)
      obtain ⟨v, hv⟩ : ∃ v, v = waysK cells adj s k t := ⟨_, rfl⟩
      rw [← hv] at hlkt
      have HV := Lib.hid hv
      clear hv
      go_wp2
      go_ret
      exact ⟨by rw [HV.out, HKL.out]; rfl, HBR.out⟩

end Go.Proofs.Ytmmfjmgjkbplpaa
