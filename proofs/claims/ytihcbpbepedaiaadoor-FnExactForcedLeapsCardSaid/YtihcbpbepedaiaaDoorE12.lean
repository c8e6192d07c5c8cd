/-
  ForcedLeaps: what the law compares.
-/
import Derived.Test.YtihcbpbepedaiaaDoorE11
import Derived.LoopNIn
namespace Go.Proofs.YtihcbpbepedaiaaDoor
open Go.RowKit Go.Shelf
attribute [local go_sem] Oper.semAt_some

set_option maxRecDepth 100000 in
set_option maxHeartbeats 4000000 in
theorem forcedSpec_any (W H : Int) (A : Option Addr) (n c : Nat) (xs : List Int) (a b : Int) (w : World) (ha : Rd w A n xs) :
    Calls Tryd.prog 16 #[brd W H A n c, lpr a b] w fun e w' => ∃ A' n' c', e = .returned (.tuple #[.slice A' n' c', .bool (twoV W H xs a b)]) ∧ PartsAt w' w.heap.size w'.heap.size A' n' c' (forcedV W H xs a b) ∧ Below w.heap.size w w' := by
  refine (callsIn_wide (n := 9)).1 ?_
  refine callsIn_of_wp_marks Tryd.func16 rfl trivial ?_ rfl
  simp only [Tryd.ntmps16, List.size_toArray, List.length_cons, List.length_nil, Nat.reduceAdd, Nat.reduceSub, Array.replicate_succ, Array.replicate_zero, List.push_toArray, List.append_toArray, List.nil_append, List.cons_append]
  by_cases ht : twoV W H xs a b = true
  · have hg := two_gK ht
    obtain ⟨hW9, hH9, _, _⟩ := goodB_iff.1 hg
    have HN := Lib.hid (cells_le hW9 hH9)
    have HG := Lib.hid hg; have HTw := Lib.hid ht
    clear hg hW9 hH9
    gi_wp2
    refine ⟨trivial, (callsIn_wide.2 (boTwo_any W H A n c xs a b _ ((ha.alloc _).alloc _))).mono ?_⟩
    rw [show (goodB W H xs && leaperB a b) = true from ht]
    clear ht
    rintro e wv ⟨rfl, hb⟩
    have hbx0 := below_box hb
    have a0 : wv.cell? ⟨w.heap.size, 0, none⟩ = some (.int .i64 W) := by simpa using newbox hbx0 0
    have a1 : wv.cell? ⟨w.heap.size, 1, none⟩ = some (.int .i64 H) := by simpa using newbox hbx0 1
    have a2 : wv.cell? ⟨w.heap.size, 2, none⟩ = some (.slice A n c) := by simpa using newbox hbx0 2
    have ga : w.heap.size < wv.heap.size := by simpa using newbox_lt hbx0
    have l0 : wv.cell? ⟨w.heap.size + 1, 0, none⟩ = some (.int .i64 a) := by simpa using newbox hb 0
    have l1 : wv.cell? ⟨w.heap.size + 1, 1, none⟩ = some (.int .i64 b) := by simpa using newbox hb 1
    have gl : w.heap.size + 1 < wv.heap.size := by simpa using newbox_lt hb
    have B := Lib.hid (below_box hbx0)
    have R := Lib.hid (ha.keep B.out)
    clear hb hbx0
    gi_wp2
    refine ⟨trivial, (callsIn_wide.2 (boCells_any W H A n c xs _ R.out HN.out)).mono ?_⟩
    rintro e ws ⟨A1, n1, c1, rfl, hst, hb⟩
    replace a0 := cell_keep a0 ga hb; replace a1 := cell_keep a1 ga hb; replace a2 := cell_keep a2 ga hb; replace l0 := cell_keep l0 gl hb; replace l1 := cell_keep l1 gl hb; replace ga := lt_keep ga hb; replace gl := lt_keep gl hb; replace R := Lib.hid (R.out.keep hb)
    have hB0 := B.out.size
    replace B := Lib.hid (below_next B.out hb)
    have hs1 := hb.size
    have ST := Lib.hid hst.rd
    have SL := Lib.hid hst.len
    have n8 : n1 ≤ 64 := by have := cellsTo_len (W := W) (H := H) (hs := xs) (W * H).toNat; have := hst.len; have := HN.out; unfold cellsL at *; omega
    have n9 := hst.rd.2.1
    clear hst hb
    gi_wp2
    gi_loopw [6, 18] (fun v i wr => ∃ (k m c' : Nat) (A' : Option Addr) (top : Nat), k ≤ n1 ∧ i = .int .i64 k ∧ v = .slice A' m c' ∧ top ≤ wr.heap.size ∧ PartsAt wr ws.heap.size top A' m c' (forcedL W H xs a b ((cellsL W H xs).take k)) ∧ Below ws.heap.size ws wr) (fun _ i _ => n1 - (intOf i).toNat)
    case atStart => exact ⟨0, 0, 0, none, 0, by omega, rfl, rfl, Nat.zero_le _, PartsAt.none_ _ _ _, Below.refl _ _⟩
    case round =>
      obtain ⟨k, m, c', A', top, hk, rfl, rfl, htop, hpa, hbw⟩ := hrel
      by_cases hlt : k < n1
      · obtain ⟨bb, oo, x, rfl, hg1, hx, x0⟩ := ST.out.at_ hlt
        have HX := Lib.hid hx
        have hin := cellsL_mem.1 (List.mem_of_getElem? hx)
        have HXR := Lib.hid (range_of HN.out hin)
        replace x0 := cell_keep x0 hg1 hbw
        have b0 := cell_keep a0 ga hbw; have b1 := cell_keep a1 ga hbw; have b2 := cell_keep a2 ga hbw; have m0 := cell_keep l0 gl hbw; have m1 := cell_keep l1 gl hbw
        have RR := Lib.hid (R.out.keep hbw)
        have HPA := Lib.hid hpa; have HB := Lib.hid hbw
        have hsw := hbw.size
        clear hx hin hpa hbw
        gi_wp2
        refine ⟨trivial, (callsIn_wide.2 (boLeaps_any W H A n c xs a b x _ RR.out HG.out HXR.out)).mono ?_⟩
        rintro e w3 ⟨A3, n3, c3, rfl, hl3, hb3⟩
        have HL3 := Lib.hid hl3
        have hn3 : n3 ≤ 64 := by have := leapsL_len64 (W := W) (H := H) (xs := xs) (a := a) (b := b) (q := x) HN.out; have := hl3.len; omega
        have HPA3 := Lib.hid (HPA.out.keep hb3)
        have HB3 := Lib.hid (HB.out.trans (hb3.mono hsw))
        have htop3 : top ≤ w3.heap.size := Nat.le_trans htop hb3.size
        clear hl3 hb3 b0 b1 b2 m0 m1 RR x0 HPA HB
        gi_wp2
        gi_loopw [6, 27] (fun v i wq => ∃ (j m2 c2 : Nat) (A2 : Option Addr) (top2 : Nat), j ≤ n3 ∧ i = .int .i64 j ∧ v = .slice A2 m2 c2 ∧ top2 ≤ wq.heap.size ∧ PartsAt wq ws.heap.size top2 A2 m2 c2 (forcedL W H xs a b ((cellsL W H xs).take k) ++ rowF W H xs a b x ((leapsL W H xs a b x).take j)) ∧ OwnI 3 wq ws.heap.size A3 n3 c3 (leapsL W H xs a b x) ∧ Below ws.heap.size ws wq) (fun _ i _ => n3 - (intOf i).toNat)
        case atStart => exact ⟨0, m, c', A', top, by omega, rfl, rfl, htop3, by simpa [rowF] using HPA3.out, HL3.out.lower hsw, HB3.out⟩
        case round =>
          obtain ⟨j, m2, c2, A2, top2, hj, rfl, rfl, htop2, hpa2, hlw, hbw2⟩ := hrel
          by_cases hltj : j < n3
          · obtain ⟨bb3, oo3, d, rfl, hg3, hd, d0⟩ := hlw.rd.at_ hltj
            have HDD := Lib.hid hd
            have hdin := cellsL_mem.1 (List.mem_filter.1 (List.mem_of_getElem? hd)).1
            have HDR := Lib.hid (range_of HN.out hdin)
            have b0 := cell_keep a0 ga hbw2; have b1 := cell_keep a1 ga hbw2; have b2 := cell_keep a2 ga hbw2; have m0 := cell_keep l0 gl hbw2; have m1 := cell_keep l1 gl hbw2
            have RR := Lib.hid (R.out.keep hbw2)
            have HPA2 := Lib.hid hpa2; have HLW := Lib.hid hlw; have HB2 := Lib.hid hbw2
            have hsw2 := hbw2.size
            clear hd hdin hpa2 hlw hbw2
            by_cases hxd : x < d
            · gi_wp2
              refine ⟨trivial, (callsIn_wide.2 (boLeaps_any W H A n c xs a b x _ RR.out HG.out HXR.out)).mono ?_⟩
              rintro e w5 ⟨A5, n5, c5, rfl, hl5, hb5⟩
              have HN5 := Lib.hid hl5.len
              have HPA5 := Lib.hid (HPA2.out.keep hb5); have HLW5 := Lib.hid (HLW.out.keep hb5); have HB5 := Lib.hid (HB2.out.trans (hb5.mono hsw2))
              have htop5 : top2 ≤ w5.heap.size := Nat.le_trans htop2 hb5.size
              have hsw5 : ws.heap.size ≤ w5.heap.size := Nat.le_trans hsw2 hb5.size
              replace b0 := b0; have e0 := cell_keep a0 ga HB5.out; have e1 := cell_keep a1 ga HB5.out; have e2 := cell_keep a2 ga HB5.out; have f0 := cell_keep l0 gl HB5.out; have f1 := cell_keep l1 gl HB5.out
              have RR5 := Lib.hid (RR.out.keep hb5)
              clear hl5 hb5 b0 b1 b2 m0 m1 RR d0 HPA2 HLW HB2 hsw2 htop2
              by_cases hf1 : (n5 : Int) = 2
              · have HPK := Lib.hid (show pickB W H xs a b x d = true by simp only [pickB, forcedB, hxd, HN5.out]; simp; left; omega)
                gi_wp2
                refine ⟨trivial, ?_⟩
                have hm2 : m2 ≤ 100000 := by
                  have h1 := HPA5.out.len
                  have h2 := forcedL_len W H xs a b HN.out ((cellsL W H xs).take k)
                  have h3 := rowF_len W H xs a b x ((leapsL W H xs a b x).take j)
                  rw [List.length_append] at h1
                  rw [List.length_take] at h2 h3
                  omega
                gi_wp2_with (refine wpListIn_appS rfl (.tmp 50) (.tmp 54) rfl ws.heap.size top2 A2 m2 c2 _ (some ⟨w5.heap.size, 0, none⟩) 2 2 [x, d] rfl (HPA5.out.keep ((Below.refl _ _).alloc (Nat.le_refl _) (.cells #[.int .i64 x, .int .i64 d] 3))) (own_two w5 _ x d hsw5) (fun y hy => by injection hy with hy; rw [← hy]; exact htop5) (by simp; omega) (by show _ = Value.slice (some ⟨(w5.alloc _).heap.size, 0, none⟩) 1 1; rw [World.size_alloc]; rfl) (by omega) (by simp; omega) ?_; intro A7 c7 w7 hpa7 hb7 _ _ kI7 hgr7; have HPA7 := Lib.hid hpa7; have HB7 := Lib.hid hb7; have HL7 := Lib.hid (kI7 _ _ _ _ _ (HLW5.out.alloc _)); have HS7 := Lib.hid hgr7.size; clear hpa7 hb7 hgr7 kI7)
                go_roundw
                case rel => exact ⟨j + 1, m2 + 1, c7, A7, _, by omega, by go_num, rfl, HS7.out, by rw [List.take_add_one, HDD.out]; simp only [Option.toList]; rw [rowF_snoc, HPK.out, ← List.append_assoc]; exact HPA7.out, HL7.out, HB5.out.trans (((Below.refl _ w5).alloc hsw5 _).trans HB7.out)⟩
                case measure => simp [intOf]; omega
              · gi_wp2
                refine ⟨trivial, (callsIn_wide.2 (boLeaps_any W H A n c xs a b d _ RR5.out HG.out HDR.out)).mono ?_⟩
                rintro e w6 ⟨A6, n6, c6, rfl, hl6, hb6⟩
                have HN6 := Lib.hid hl6.len
                have HPA6 := Lib.hid (HPA5.out.keep hb6); have HLW6 := Lib.hid (HLW5.out.keep hb6); have HB6 := Lib.hid (HB5.out.trans (hb6.mono hsw5))
                have htop6 : top2 ≤ w6.heap.size := Nat.le_trans htop5 hb6.size
                have hsw6 : ws.heap.size ≤ w6.heap.size := Nat.le_trans hsw5 hb6.size
                clear hl6 hb6 e0 e1 e2 f0 f1 RR5 HPA5 HLW5 HB5 htop5 hsw5
                by_cases hf2 : (n6 : Int) = 2
                · have HPK := Lib.hid (show pickB W H xs a b x d = true by simp only [pickB, forcedB, hxd, HN6.out]; simp; right; omega)
                  have hm2 : m2 ≤ 100000 := by
                    have h1 := HPA6.out.len
                    have h2 := forcedL_len W H xs a b HN.out ((cellsL W H xs).take k)
                    have h3 := rowF_len W H xs a b x ((leapsL W H xs a b x).take j)
                    rw [List.length_append] at h1
                    rw [List.length_take] at h2 h3
                    omega
                  gi_wp2_with (refine wpListIn_appS rfl (.tmp 50) (.tmp 54) rfl ws.heap.size top2 A2 m2 c2 _ (some ⟨w6.heap.size, 0, none⟩) 2 2 [x, d] rfl (HPA6.out.keep ((Below.refl _ _).alloc (Nat.le_refl _) (.cells #[.int .i64 x, .int .i64 d] 3))) (own_two w6 _ x d hsw6) (fun y hy => by injection hy with hy; rw [← hy]; exact htop6) (by simp; omega) (by show _ = Value.slice (some ⟨(w6.alloc _).heap.size, 0, none⟩) 1 1; rw [World.size_alloc]; rfl) (by omega) (by simp; omega) ?_; intro A7 c7 w7 hpa7 hb7 _ _ kI7 hgr7; have HPA7 := Lib.hid hpa7; have HB7 := Lib.hid hb7; have HL7 := Lib.hid (kI7 _ _ _ _ _ (HLW6.out.alloc _)); have HS7 := Lib.hid hgr7.size; clear hpa7 hb7 hgr7 kI7)
                  go_roundw
                  case rel => exact ⟨j + 1, m2 + 1, c7, A7, _, by omega, by go_num, rfl, HS7.out, by rw [List.take_add_one, HDD.out]; simp only [Option.toList]; rw [rowF_snoc, HPK.out, ← List.append_assoc]; exact HPA7.out, HL7.out, HB6.out.trans (((Below.refl _ w6).alloc hsw6 _).trans HB7.out)⟩
                  case measure => simp [intOf]; omega
                · have HPK := Lib.hid (show pickB W H xs a b x d = false by simp only [pickB, forcedB, HN5.out, HN6.out]; simp; intro _; omega)
                  have hf2z : (((n6 : Nat) : Int) == 2) = false := by simp; omega
                  gi_wp2
                  go_roundw
                  case rel => exact ⟨j + 1, m2, c2, A2, top2, by omega, by go_num, rfl, htop6, by rw [List.take_add_one, HDD.out]; simp only [Option.toList]; rw [rowF_snoc, HPK.out]; simpa using HPA6.out, HLW6.out, HB6.out⟩
                  case measure => simp [intOf]; omega
            · have HPK := Lib.hid (show pickB W H xs a b x d = false by simp [pickB, hxd])
              gi_wp2
              refine ⟨trivial, ?_⟩
              gi_wp2_with (rename_i h8 h9; exact undef_bool h8)
              refine ⟨trivial, ?_⟩
              gi_wp2_with (rename_i h8 h9; exact undef_bool h8)
              go_roundw
              case rel => exact ⟨j + 1, m2, c2, A2, top2, by omega, by go_num, rfl, htop2, by rw [List.take_add_one, HDD.out]; simp only [Option.toList]; rw [rowF_snoc, HPK.out]; simpa using HPA2.out, HLW.out, HB2.out⟩
              case measure => simp [intOf]; omega
          · have e : j = n3 := by omega
            subst e
            have e2 : (leapsL W H xs a b x).take j = leapsL W H xs a b x := List.take_of_length_le (by have := HL3.out.len; omega)
            rw [e2] at hpa2
            have HPA2 := Lib.hid hpa2; have HB2 := Lib.hid hbw2
            clear hpa2 hbw2 hlw
            gi_wp2
            go_roundw
            case rel =>
              have hfl : forcedL W H xs a b ((cellsL W H xs).take k) ++ rowF W H xs a b x (leapsL W H xs a b x) = forcedL W H xs a b ((cellsL W H xs).take (k + 1)) := by rw [List.take_add_one, HX.out]; simp [forcedL]
              exact ⟨k + 1, m2, c2, A2, top2, by omega, by go_num, rfl, htop2, by rw [← hfl]; exact HPA2.out, HB2.out⟩
            case measure => simp [intOf]; omega
      · have e : k = n1 := by omega
        subst e
        have e2 : (cellsL W H xs).take k = cellsL W H xs := List.take_of_length_le (by have := SL.out; omega)
        rw [e2] at hpa
        have HPA := Lib.hid hpa; have HB := Lib.hid hbw
        clear hpa hbw e2
        gi_wp2
        refine ⟨_, results_tmp2 rfl _ _ _, A', m, c', by rw [HTw.out]; rfl, ?_, B.out.trans (HB.out.mono (by omega))⟩
        have hv : forcedV W H xs a b = forcedL W H xs a b (cellsL W H xs) := by rw [forcedV, if_pos HTw.out]
        rw [hv]
        exact (OwnSS.of (HPA.out.lower (by omega))).1
  · have hv : twoV W H xs a b = false := by simpa using ht
    clear ht
    gi_wp2
    refine ⟨trivial, (callsIn_wide.2 (boTwo_any W H A n c xs a b _ ((ha.alloc _).alloc _))).mono ?_⟩
    rw [show (goodB W H xs && leaperB a b) = false from hv]
    rintro e wv ⟨rfl, hb⟩
    have B := Lib.hid (below_box (below_box hb))
    clear hb
    gi_wp2
    refine ⟨_, results_tmp2 rfl _ _ _, none, 0, 0, by rw [hv]; rfl, ?_, B.out⟩
    have hz : forcedV W H xs a b = [] := by rw [forcedV, hv]; rfl
    rw [hz]
    exact PartsAt.none_ _ _ _
end Go.Proofs.YtihcbpbepedaiaaDoor
