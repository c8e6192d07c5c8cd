/-
  Middles of a board, in plain terms.
  Contracts: MiddlesOf.
  Sizes of what is handed back: middles.
-/
import Derived.Test.YtholjdllbhnldaaP5
namespace Go.Proofs.Ytholjdllbhnldaa
open Go.RowKit

/-- One cell more, as the model has it: what was found, and the least so far. -/
def midStep (F : Int → Int) (st : List Int × Int) (c : Int) : List Int × Int :=
  if st.2 < 0 ∨ F c < st.2 then ([c], F c) else if F c = st.2 then (st.1 ++ [c], st.2) else st
/-- As the program has it. -/
def midStepI (F : Int → Int) (st : List Int × Int) (c : Int) : List Int × Int :=
  if F c < st.2 then ([c], F c) else if F c = st.2 then (st.1 ++ [c], st.2) else st
def midTo (W H : Int) (xs : List Int) (a b : Int) (k : Nat) : List Int × Int := ((cellsL W H xs).take k).foldl (midStep (farF W H xs a b)) ([], -1)
def midToI (W H : Int) (xs : List Int) (a b : Int) (k : Nat) : List Int × Int := ((cellsL W H xs).take k).foldl (midStepI (farF W H xs a b)) ([], 64)
def middlesV (W H : Int) (xs : List Int) (a b : Int) : List Int := if wholeV W H xs a b = true then (midTo W H xs a b (cellsL W H xs).length).1 else []
theorem midTo_next {W H a b c : Int} {xs : List Int} {k : Nat} (hc : (cellsL W H xs)[k]? = some c) : midTo W H xs a b (k + 1) = midStep (farF W H xs a b) (midTo W H xs a b k) c := take_foldl _ hc _
theorem midToI_next {W H a b c : Int} {xs : List Int} {k : Nat} (hc : (cellsL W H xs)[k]? = some c) : midToI W H xs a b (k + 1) = midStepI (farF W H xs a b) (midToI W H xs a b k) c := take_foldl _ hc _
theorem mid_stop {W H a b : Int} {xs : List Int} {k : Nat} (hc : (cellsL W H xs)[k]? = none) : midTo W H xs a b (k + 1) = midTo W H xs a b k ∧ midToI W H xs a b (k + 1) = midToI W H xs a b k := by
  constructor
  · rw [midTo, midTo, List.take_add_one, hc]; simp
  · rw [midToI, midToI, List.take_add_one, hc]; simp
theorem midStep_len (F : Int → Int) (st : List Int × Int) (c : Int) : (midStep F st c).1.length ≤ st.1.length + 1 := by
  unfold midStep; split
  · simp
  · split
    · simp
    · omega
theorem midStepI_len (F : Int → Int) (st : List Int × Int) (c : Int) : (midStepI F st c).1.length ≤ st.1.length + 1 := by
  unfold midStepI; split
  · simp
  · split
    · simp
    · omega
theorem midTo_len (W H : Int) (xs : List Int) (a b : Int) : ∀ k, (midTo W H xs a b k).1.length ≤ k
  | 0 => by simp [midTo]
  | k + 1 => by
    have ih := midTo_len W H xs a b k
    cases hc : (cellsL W H xs)[k]? with
    | none => rw [(mid_stop hc).1]; omega
    | some c => rw [midTo_next hc]; have := midStep_len (farF W H xs a b) (midTo W H xs a b k) c; omega
theorem midToI_len (W H : Int) (xs : List Int) (a b : Int) : ∀ k, (midToI W H xs a b k).1.length ≤ k
  | 0 => by simp [midToI]
  | k + 1 => by
    have ih := midToI_len W H xs a b k
    cases hc : (cellsL W H xs)[k]? with
    | none => rw [(mid_stop hc).2]; omega
    | some c => rw [midToI_next hc]; have := midStepI_len (farF W H xs a b) (midToI W H xs a b k) c; omega
theorem midTo_bd {W H a b : Int} {xs : List Int} {N : Nat} (h : OnFacts W H xs a b N) : ∀ k, -1 ≤ (midTo W H xs a b k).2 ∧ (midTo W H xs a b k).2 ≤ 64
  | 0 => by simp [midTo]
  | k + 1 => by
    have ih := midTo_bd h k
    cases hc : (cellsL W H xs)[k]? with
    | none => rw [(mid_stop hc).1]; exact ih
    | some c =>
      rw [midTo_next hc, midStep]
      have := farF_bd h (cellsL_mem.1 (List.mem_of_getElem? hc))
      split
      · simp only; omega
      · split
        · exact ih
        · exact ih
/-- Both go the same way: the least is told otherwise before the first cell alone. -/
theorem mid_both {W H a b : Int} {xs : List Int} {N : Nat} (h : OnFacts W H xs a b N) : ∀ k, (midTo W H xs a b k = ([], -1) ∧ midToI W H xs a b k = ([], 64)) ∨ (0 ≤ (midTo W H xs a b k).2 ∧ midToI W H xs a b k = midTo W H xs a b k)
  | 0 => .inl ⟨rfl, rfl⟩
  | k + 1 => by
    have ih := mid_both h k
    cases hc : (cellsL W H xs)[k]? with
    | none => rw [(mid_stop hc).1, (mid_stop hc).2]; exact ih
    | some c =>
      have hf := farF_bd h (cellsL_mem.1 (List.mem_of_getElem? hc))
      rw [midTo_next hc, midToI_next hc]
      right
      rcases ih with ⟨e1, e2⟩ | ⟨h0, e⟩
      · rw [e1, e2, midStep, midStepI, if_pos (.inl (by simp))]
        refine ⟨hf.1, ?_⟩
        by_cases h64 : farF W H xs a b c < 64
        · rw [if_pos h64]
        · have e64 : farF W H xs a b c = 64 := by omega
          rw [if_neg (by simp only; omega), if_pos e64]
          simp [e64]
      · rw [e, midStep, midStepI]
        have hn : ¬ (midTo W H xs a b k).2 < 0 := by omega
        by_cases h1 : farF W H xs a b c < (midTo W H xs a b k).2
        · rw [if_pos (.inr h1), if_pos h1]; exact ⟨hf.1, rfl⟩
        · rw [if_neg (by intro h9; rcases h9 with h9 | h9; exact hn h9; exact h1 h9), if_neg h1]
          refine ⟨?_, rfl⟩
          split
          · exact h0
          · exact h0
theorem mid_same {W H a b : Int} {xs : List Int} {N : Nat} (h : OnFacts W H xs a b N) (k : Nat) : (midToI W H xs a b k).1 = (midTo W H xs a b k).1 := by
  rcases mid_both h k with ⟨e1, e2⟩ | ⟨_, e⟩
  · rw [e1, e2]
  · rw [e]
theorem midToI_bd {W H a b : Int} {xs : List Int} {N : Nat} (h : OnFacts W H xs a b N) (k : Nat) : 0 ≤ (midToI W H xs a b k).2 ∧ (midToI W H xs a b k).2 ≤ 64 := by
  have hb := midTo_bd h k
  rcases mid_both h k with ⟨e1, e2⟩ | ⟨h0, e⟩
  · rw [e2]; simp
  · rw [e]; omega

end Go.Proofs.Ytholjdllbhnldaa

namespace Go.Proofs.Ytholjdllbhnldaa
open Go.RowKit

set_option maxRecDepth 100000 in
set_option maxHeartbeats 4000000 in
theorem spec_MiddlesOf (W H : Int) (A : Option Addr) (n c : Nat) (xs : List Int) (a b : Int) (w : World) (ha : Rd w A n xs) :
    Calls Try.prog 12 #[brd W H A n c, lpr a b] w fun e w' => ∃ A' n' c', e = .returned (.tuple #[.slice A' n' c', .bool (wholeV W H xs a b)]) ∧ OwnI 3 w' w.heap.size A' n' c' (middlesV W H xs a b) ∧ Below w.heap.size w w' := by
  obtain ⟨i0, hi, hz0, hz1, hz2⟩ := info_parts infoI
  have HI := Lib.hid hi; have HZ0 := Lib.hid hz0; have HZ1 := Lib.hid hz1; have HZ2 := Lib.hid hz2
  clear hi hz0 hz1 hz2
  by_cases ht : (goodB W H xs && leaperB a b) = true
  · have hok : okTwo W H xs a b = true := by rw [okTwo, two_l ht, two_g ht]; rfl
    have FO := on_facts hok
    obtain ⟨N, hN⟩ : ∃ N, N = (W * H).toNat := ⟨_, rfl⟩
    rw [← hN] at FO
    have HF := Lib.hid FO
    have HOK := Lib.hid hok
    have n64 := FO.n.2
    clear FO hN
    have hN8 := cells_le (goodB_iff.1 HF.out.g).1 (goodB_iff.1 HF.out.g).2.1
    have HN := Lib.hid hN8
    clear hN8
    go_enter Try.func12, Try.ntmps12
    go_wp2_with fail
    refine (boTwo_any _ _ _ _ _ _ _ _ _ ((ha.alloc _).alloc _)).mono ?_
    rw [ht]
    rintro e wv ⟨rfl, hb⟩
    have hbx0 := below_box hb
    have a0 : wv.cell? ⟨w.heap.size, 0, none⟩ = some (.int .i64 W) := by simpa using newbox hbx0 0
    have a1 : wv.cell? ⟨w.heap.size, 1, none⟩ = some (.int .i64 H) := by simpa using newbox hbx0 1
    have a2 : wv.cell? ⟨w.heap.size, 2, none⟩ = some (.slice A n c) := by simpa using newbox hbx0 2
    have al : w.heap.size < wv.heap.size := by simpa using newbox_lt hbx0
    have l0 : wv.cell? ⟨w.heap.size + 1, 0, none⟩ = some (.int .i64 a) := by simpa using newbox hb 0
    have l1 : wv.cell? ⟨w.heap.size + 1, 1, none⟩ = some (.int .i64 b) := by simpa using newbox hb 1
    have ll : w.heap.size + 1 < wv.heap.size := by simpa using newbox_lt hb
    have B := Lib.hid (below_box hbx0)
    clear hb hbx0
    go_wp2_with fail
    refine (faParts_any W H A n c xs a b N _ (ha.keep B.out) HF.out).mono ?_
    rintro e wx ⟨A', n', c', top, rfl, pa, hb⟩
    have hlen := pa.len
    have HLEN := Lib.hid hlen
    replace a0 := cell_keep a0 al hb; replace a1 := cell_keep a1 al hb; replace a2 := cell_keep a2 al hb; replace l0 := cell_keep l0 ll hb; replace l1 := cell_keep l1 ll hb; replace al := lt_keep al hb; replace ll := lt_keep ll hb
    replace B := Lib.hid (below_next B.out hb)
    clear pa hb hlen
    by_cases h1 : n' = 1
    · subst h1
      have hw : wholeV W H xs a b = true := by rw [wholeV, HOK.out, HLEN.out]; rfl
      have HW := Lib.hid hw
      clear hw HLEN
      go_wp2_with fail
      refine (boCells_any W H A n c xs _ (ha.keep B.out) HN.out).mono ?_
      rintro e ws ⟨A1, n1, c1, rfl, hst, hb⟩
      replace a0 := cell_keep a0 al hb; replace a1 := cell_keep a1 al hb; replace a2 := cell_keep a2 al hb; replace l0 := cell_keep l0 ll hb; replace l1 := cell_keep l1 ll hb; replace al := lt_keep al hb; replace ll := lt_keep ll hb
      replace B := Lib.hid (below_next B.out hb)
      have ST := Lib.hid hst.rd
      have SL := Lib.hid hst.len
      have n8 : n1 ≤ 64 := by have := cellsTo_len (W := W) (H := H) (hs := xs) (W * H).toNat; have := hst.len; have := HN.out; unfold cellsL at *; omega
      have n9 := hst.rd.2.1
      clear hst hb
      go_wp2
      go_loopw [6, 7, 26] (fun v u i wr => ∃ (k n' c' : Nat) (A' : Option Addr), k ≤ n1 ∧ i = .int .i64 k ∧ v = .slice A' n' c' ∧ u = .int .i64 (midTo W H xs a b k).2 ∧ OwnI 3 wr ws.heap.size A' n' c' (midTo W H xs a b k).1 ∧ Below ws.heap.size ws wr) (fun _ _ i _ => n1 - (intOf i).toNat)
      case atStart => exact ⟨0, 0, 0, none, by omega, rfl, rfl, rfl, OwnI.none_ _ _ _, Below.refl _ _⟩
      case round =>
        obtain ⟨k, n', c', A', hk, rfl, rfl, rfl, hown, hbw⟩ := hrel
        have hn64 : n' ≤ 64 := by have := midTo_len W H xs a b k; have := hown.len; omega
        have hl64 := midTo_bd HF.out k
        by_cases hlt : k < n1
        · obtain ⟨bb, oo, x, rfl, hg1, hx, x0⟩ := (ST.out.keep hbw).at_ hlt
          have hin := cellsL_mem.1 (List.mem_of_getElem? hx)
          have hxr := (hasB_iff.1 hin).1
          rw [HF.out.wh] at hxr
          obtain ⟨xn, rfl⟩ : ∃ xn : Nat, x = (xn : Int) := ⟨x.toNat, by omega⟩
          have hxn : xn < N := by omega
          have hxh : hasB W H xs (xn : Int) = true := hin
          have hfb := farF_bd HF.out hxh
          have est := midTo_next (a := a) (b := b) hx
          have HXI := Lib.hid hxh
          have HFB := Lib.hid hfb
          obtain ⟨mo, hmo⟩ : ∃ mo, mo = (midTo W H xs a b k).1 := ⟨_, rfl⟩
          obtain ⟨ml, hml⟩ : ∃ ml, ml = (midTo W H xs a b k).2 := ⟨_, rfl⟩
          have e2 : midTo W H xs a b k = (mo, ml) := by rw [hmo, hml]
          rw [e2] at est
          rw [← hmo] at hown
          rw [← hml] at hl64 ⊢
          have EST := Lib.hid est; have HO := Lib.hid hown
          have HB := Lib.hid (below_next B.out hbw); have HBW := Lib.hid hbw
          have b0 := cell_keep a0 al hbw; have b1 := cell_keep a1 al hbw; have b2 := cell_keep a2 al hbw; have m0 := cell_keep l0 ll hbw; have m1 := cell_keep l1 ll hbw
          clear hx hin hxr hxh hfb est hmo hml e2 hbw hown
          go_wp2_with fail
          refine (faFrom_any W H A n c xs a b xn N _ (ha.keep HB.out) HF.out.g HF.out.wh hxn).mono ?_
          rintro e wv ⟨g, rfl, own, hb⟩
          have eD : farL (leapsL W H xs a b) N (xn : Int) = distL W H xs a b (xn : Int) := by rw [distL, show (W * H).toNat = N by have := HF.out.wh; omega]
          rw [eD] at own
          have DRD := Lib.hid own.rd
          replace HBW := Lib.hid (below_next HBW.out hb); replace HO := Lib.hid (HO.out.keep hb)
          clear own hb eD x0 b0 b1 b2 m0 m1
          go_wp2_with fail
          refine (faMost_any _ N N _ _ DRD.out (dist_bd HF.out HXI.out) n64 xn hxn (by rw [dist_selfN HF.out HXI.out]; omega)).mono ?_
          rintro e wz ⟨rfl, hb⟩
          have ef : (distL W H xs a b (xn : Int)).getD (mostTo (distL W H xs a b (xn : Int)) N).toNat (-1) = farF W H xs a b (xn : Int) := by rw [farF, show (W * H).toNat = N by have := HF.out.wh; omega]
          rw [ef]
          replace HBW := Lib.hid (below_next HBW.out hb); replace HO := Lib.hid (HO.out.keep hb)
          have hsz9 : ws.heap.size ≤ wz.heap.size := HBW.out.size
          clear hb DRD ef
          obtain ⟨fx, hfe⟩ : ∃ fx, fx = farF W H xs a b (xn : Int) := ⟨_, rfl⟩
          have hfx := HFB.out
          rw [← hfe] at hfx ⊢
          have HFE := Lib.hid hfe
          clear hfe
          by_cases h0 : ml < 0
          · go_wp2_with (at_builtin; refine wpList_app1 rfl (.tmp 49) (.tmp 51) 32 3 rfl i0 Try.underlying32 HI.out HZ0.out HZ1.out HZ2.out ws.heap.size none 0 0 [] (xn : Int) rfl (OwnI.none_ _ _ _) rfl (by omega) hsz9 ?_; intro A2 c2' w2 hown2 hb2')
            have HO3 := Lib.hid hown2; have HB3 := Lib.hid (HBW.out.trans hb2')
            clear hown2 hb2'
            go_wp2
            go_roundw
            case rel =>
              have e : midTo W H xs a b (k + 1) = ([(xn : Int)], fx) := by rw [EST.out, midStep, if_pos (by rw [← HFE.out]; exact .inl h0), ← HFE.out]
              exact ⟨k + 1, 0 + 1, c2', A2, by omega, by go_num, rfl, by rw [e], by rw [e]; simpa using HO3.out, HB3.out⟩
            case measure => simp [intOf]; omega
          · have h0' : decide (ml < 0) = false := by simpa using h0
            by_cases h1 : fx < ml
            · go_wp2_with (at_builtin; refine wpList_app1 rfl (.tmp 49) (.tmp 51) 32 3 rfl i0 Try.underlying32 HI.out HZ0.out HZ1.out HZ2.out ws.heap.size none 0 0 [] (xn : Int) rfl (OwnI.none_ _ _ _) rfl (by omega) hsz9 ?_; intro A2 c2' w2 hown2 hb2')
              have HO3 := Lib.hid hown2; have HB3 := Lib.hid (HBW.out.trans hb2')
              clear hown2 hb2'
              go_wp2
              go_roundw
              case rel =>
                have e : midTo W H xs a b (k + 1) = ([(xn : Int)], fx) := by rw [EST.out, midStep, if_pos (by rw [← HFE.out]; exact .inr h1), ← HFE.out]
                exact ⟨k + 1, 0 + 1, c2', A2, by omega, by go_num, rfl, by rw [e], by rw [e]; simpa using HO3.out, HB3.out⟩
              case measure => simp [intOf]; omega
            · have h1' : decide (fx < ml) = false := by simpa using h1
              by_cases h2 : fx = ml
              · subst h2
                go_wp2_with (at_builtin; refine wpList_app1 rfl (.tmp 49) (.tmp 51) 32 3 rfl i0 Try.underlying32 HI.out HZ0.out HZ1.out HZ2.out ws.heap.size A' n' c' mo (xn : Int) rfl HO.out rfl (by omega) hsz9 ?_; intro A2 c2' w2 hown2 hb2')
                have HO3 := Lib.hid hown2; have HB3 := Lib.hid (HBW.out.trans hb2')
                clear hown2 hb2'
                go_wp2
                go_roundw
                case rel =>
                  have e : midTo W H xs a b (k + 1) = (mo ++ [(xn : Int)], fx) := by rw [EST.out, midStep, if_neg (by rw [← HFE.out]; simp only; omega), if_pos (by rw [← HFE.out])]
                  exact ⟨k + 1, n' + 1, c2', A2, by omega, by go_num, rfl, by rw [e], by rw [e]; exact HO3.out, HB3.out⟩
                case measure => simp [intOf]; omega
              · have h2' : (fx == ml) = false := by simpa using h2
                go_wp2
                go_roundw
                case rel =>
                  have e : midTo W H xs a b (k + 1) = (mo, ml) := by rw [EST.out, midStep, if_neg (by rw [← HFE.out]; simp only; omega), if_neg (by rw [← HFE.out]; exact h2)]
                  exact ⟨k + 1, n', c', A', by omega, by go_num, rfl, by rw [e], by rw [e]; exact HO.out, HBW.out⟩
                case measure => simp [intOf]; omega
        · obtain rfl : k = n1 := by omega
          have HB := Lib.hid (below_next B.out hbw)
          have eW : (midTo W H xs a b k).1 = middlesV W H xs a b := by rw [middlesV, if_pos HW.out, midTo, midTo, List.take_of_length_le (by have := SL.out; omega), List.take_length]
          rw [eW] at hown
          have HO := Lib.hid (hown.lower B.out.size)
          clear hbw hown eW hl64
          go_wp2
          go_ret2
          exact ⟨_, _, _, by rw [HW.out]; rfl, HO.out, HB.out⟩
    · have hw : wholeV W H xs a b = false := by rw [wholeV, HOK.out, HLEN.out, show decide (n' = 1) = false by simpa using h1]; rfl
      have h1' : ((n' : Int) != 1) = true := by simp; omega
      have HW := Lib.hid hw
      clear hw HLEN
      go_wp2
      go_ret2
      exact ⟨none, 0, 0, by rw [HW.out]; rfl, by rw [middlesV, if_neg (by rw [HW.out]; simp)]; exact OwnI.none_ _ _ _, B.out⟩
  · have ht' : (goodB W H xs && leaperB a b) = false := by simpa using ht
    go_enter Try.func12, Try.ntmps12
    go_wp2_with fail
    refine (boTwo_any _ _ _ _ _ _ _ _ _ ((ha.alloc _).alloc _)).mono ?_
    rw [ht']
    rintro e wv ⟨rfl, hb⟩
    have hbx0 := below_box hb
    have a0 : wv.cell? ⟨w.heap.size, 0, none⟩ = some (.int .i64 W) := by simpa using newbox hbx0 0
    have a1 : wv.cell? ⟨w.heap.size, 1, none⟩ = some (.int .i64 H) := by simpa using newbox hbx0 1
    have a2 : wv.cell? ⟨w.heap.size, 2, none⟩ = some (.slice A n c) := by simpa using newbox hbx0 2
    have al : w.heap.size < wv.heap.size := by simpa using newbox_lt hbx0
    have l0 : wv.cell? ⟨w.heap.size + 1, 0, none⟩ = some (.int .i64 a) := by simpa using newbox hb 0
    have l1 : wv.cell? ⟨w.heap.size + 1, 1, none⟩ = some (.int .i64 b) := by simpa using newbox hb 1
    have ll : w.heap.size + 1 < wv.heap.size := by simpa using newbox_lt hb
    have B := Lib.hid (below_box hbx0)
    clear hb hbx0
    go_wp2
    go_ret2
    exact ⟨none, 0, 0, by rw [show wholeV W H xs a b = false by rw [wholeV, show okTwo W H xs a b = false by (rw [okTwo, Bool.and_comm, ht'])]; rfl]; rfl, by rw [middlesV, if_neg (by rw [wholeV, show okTwo W H xs a b = false by (rw [okTwo, Bool.and_comm, ht'])]; simp)]; exact OwnI.none_ _ _ _, B.out⟩

set_option maxRecDepth 100000 in
set_option maxHeartbeats 4000000 in
theorem impl_MiddlesOf (W H : Int) (A : Option Addr) (n c : Nat) (xs : List Int) (a b : Int) (w : World) (ha : Rd w A n xs) :
    Calls Try.prog 14 #[brd W H A n c, lpr a b] w fun e w' => ∃ A' n' c', e = .returned (.tuple #[.slice A' n' c', .bool (wholeV W H xs a b)]) ∧ OwnI 3 w' w.heap.size A' n' c' (middlesV W H xs a b) ∧ Below w.heap.size w w' := by
  obtain ⟨i0, hi, hz0, hz1, hz2⟩ := info_parts infoI
  have HI := Lib.hid hi; have HZ0 := Lib.hid hz0; have HZ1 := Lib.hid hz1; have HZ2 := Lib.hid hz2
  clear hi hz0 hz1 hz2
  by_cases ho : onB W H xs a b [] = true
  · have hok : okTwo W H xs a b = true := by rw [← onB_nil2, ho]
    have FO := on_facts hok
    obtain ⟨N, hN⟩ : ∃ N, N = (W * H).toNat := ⟨_, rfl⟩
    rw [← hN] at FO
    have HF := Lib.hid FO
    have HOK := Lib.hid hok
    have n64 := FO.n.2
    clear FO hN
    have hN8 := cells_le (goodB_iff.1 HF.out.g).1 (goodB_iff.1 HF.out.g).2.1
    have HN := Lib.hid hN8
    clear hN8
    go_enter Try.func14, Try.ntmps14
    go_wp2_with fail
    refine (isLeaperOn_any _ _ _ _ _ _ _ _ _ _ _ [] _ ((ha.alloc _).alloc _) (Rd.nil _ _)).mono ?_
    rw [ho]
    rintro e wv ⟨rfl, hb⟩
    have hbx0 := below_box hb
    have a0 : wv.cell? ⟨w.heap.size, 0, none⟩ = some (.int .i64 W) := by simpa using newbox hbx0 0
    have a1 : wv.cell? ⟨w.heap.size, 1, none⟩ = some (.int .i64 H) := by simpa using newbox hbx0 1
    have a2 : wv.cell? ⟨w.heap.size, 2, none⟩ = some (.slice A n c) := by simpa using newbox hbx0 2
    have al : w.heap.size < wv.heap.size := by simpa using newbox_lt hbx0
    have l0 : wv.cell? ⟨w.heap.size + 1, 0, none⟩ = some (.int .i64 a) := by simpa using newbox hb 0
    have l1 : wv.cell? ⟨w.heap.size + 1, 1, none⟩ = some (.int .i64 b) := by simpa using newbox hb 1
    have ll : w.heap.size + 1 < wv.heap.size := by simpa using newbox_lt hb
    have B := Lib.hid (below_box hbx0)
    clear hb hbx0
    go_wp2_with fail
    refine (onwardOf_any W H A n c xs a b _ (ha.keep B.out) HF.out.g HF.out.l).mono ?_
    rintro e wx ⟨mb, rfl, hom, hb⟩
    have HOM := Lib.hid hom
    replace a0 := cell_keep a0 al hb; replace a1 := cell_keep a1 al hb; replace a2 := cell_keep a2 al hb; replace l0 := cell_keep l0 ll hb; replace l1 := cell_keep l1 ll hb; replace al := lt_keep al hb; replace ll := lt_keep ll hb
    replace B := Lib.hid (below_next B.out hb)
    clear hom hb
    go_wp2_with fail
    refine (isWhole_any W H A n c xs a b N _ mb _ (ha.keep B.out) HF.out HOM.out).mono ?_
    rintro e wy ⟨rfl, hb⟩
    replace HOM := Lib.hid (HOM.out.keep hb)
    replace a0 := cell_keep a0 al hb; replace a1 := cell_keep a1 al hb; replace a2 := cell_keep a2 al hb; replace l0 := cell_keep l0 ll hb; replace l1 := cell_keep l1 ll hb; replace al := lt_keep al hb; replace ll := lt_keep ll hb
    replace B := Lib.hid (below_next B.out hb)
    clear hb
    by_cases h1 : (partsL W H xs a b).length = 1
    · have hw : wholeV W H xs a b = true := by rw [wholeV, HOK.out, h1]; rfl
      have HW := Lib.hid hw
      rw [show decide ((partsL W H xs a b).length = 1) = true by simpa using h1]
      clear hw h1
      go_wp2_with fail
      refine (cellsThere_any W H A n c xs _ (ha.keep B.out) HF.out.g).mono ?_
      rintro e ws ⟨A1, n1, c1, rfl, hst, hb⟩
      replace HOM := Lib.hid (HOM.out.keep hb)
      replace a0 := cell_keep a0 al hb; replace a1 := cell_keep a1 al hb; replace a2 := cell_keep a2 al hb; replace l0 := cell_keep l0 ll hb; replace l1 := cell_keep l1 ll hb; replace al := lt_keep al hb; replace ll := lt_keep ll hb
      replace B := Lib.hid (below_next B.out hb)
      have ST := Lib.hid hst.rd
      have SL := Lib.hid hst.len
      have n8 : n1 ≤ 64 := by have := cellsTo_len (W := W) (H := H) (hs := xs) (W * H).toNat; have := hst.len; have := HN.out; unfold cellsL at *; omega
      have n9 := hst.rd.2.1
      clear hst hb
      go_wp2
      go_loopw [7, 8, 26] (fun v u i wr => ∃ (k n' c' : Nat) (A' : Option Addr), k ≤ n1 ∧ i = .int .i64 k ∧ v = .slice A' n' c' ∧ u = .int .i64 (midToI W H xs a b k).2 ∧ OwnI 3 wr ws.heap.size A' n' c' (midToI W H xs a b k).1 ∧ Below ws.heap.size ws wr) (fun _ _ i _ => n1 - (intOf i).toNat)
      case atStart => exact ⟨0, 0, 0, none, by omega, rfl, rfl, rfl, OwnI.none_ _ _ _, Below.refl _ _⟩
      case round =>
        obtain ⟨k, n', c', A', hk, rfl, rfl, rfl, hown, hbw⟩ := hrel
        have hn64 : n' ≤ 64 := by have := midToI_len W H xs a b k; have := hown.len; omega
        have hl64 := midToI_bd HF.out k
        by_cases hlt : k < n1
        · obtain ⟨bb, oo, x, rfl, hg1, hx, x0⟩ := (ST.out.keep hbw).at_ hlt
          have hin := cellsL_mem.1 (List.mem_of_getElem? hx)
          have hxr := (hasB_iff.1 hin).1
          rw [HF.out.wh] at hxr
          obtain ⟨xn, rfl⟩ : ∃ xn : Nat, x = (xn : Int) := ⟨x.toNat, by omega⟩
          have hxn : xn < N := by omega
          have hxh : hasB W H xs (xn : Int) = true := hin
          have hfb := farF_bd HF.out hxh
          have est := midToI_next (a := a) (b := b) hx
          have HXI := Lib.hid hxh
          have HFB := Lib.hid hfb
          obtain ⟨mo, hmo⟩ : ∃ mo, mo = (midToI W H xs a b k).1 := ⟨_, rfl⟩
          obtain ⟨ml, hml⟩ : ∃ ml, ml = (midToI W H xs a b k).2 := ⟨_, rfl⟩
          have e2 : midToI W H xs a b k = (mo, ml) := by rw [hmo, hml]
          rw [e2] at est
          rw [← hmo] at hown
          rw [← hml] at hl64 ⊢
          have EST := Lib.hid est; have HO := Lib.hid hown
          have HB := Lib.hid (below_next B.out hbw); have HBW := Lib.hid hbw
          have b0 := cell_keep a0 al hbw; have b1 := cell_keep a1 al hbw; have b2 := cell_keep a2 al hbw; have m0 := cell_keep l0 ll hbw; have m1 := cell_keep l1 ll hbw
          clear hx hin hxr hxh hfb est hmo hml e2 hbw hown
          go_wp2_with fail
          refine (distancesFrom_any _ mb (cellsL W H xs) (leapsL W H xs a b) xn _ (HOM.out.keep HBW.out) (by omega) (cellsL_mem.2 HXI.out) (cells_in HF.out) adj_in).mono ?_
          rintro e wu ⟨rfl, hb⟩
          have h64 := far_len64 HF.out HXI.out
          replace HBW := Lib.hid (below_next HBW.out hb); replace HO := Lib.hid (HO.out.keep hb)
          clear hb x0 b0 b1 b2 m0 m1
          go_wp2_with fail
          refine (greatest_any _ h64 _).mono ?_
          rintro e wz ⟨rfl, hb⟩
          rw [farF_max HF.out HXI.out]
          replace HBW := Lib.hid (below_next HBW.out hb); replace HO := Lib.hid (HO.out.keep hb)
          have hsz9 : ws.heap.size ≤ wz.heap.size := HBW.out.size
          clear hb h64
          obtain ⟨fx, hfe⟩ : ∃ fx, fx = farF W H xs a b (xn : Int) := ⟨_, rfl⟩
          have hfx := HFB.out
          rw [← hfe] at hfx ⊢
          have HFE := Lib.hid hfe
          clear hfe
          by_cases h1 : fx < ml
          · go_wp2_with (at_builtin; refine wpList_app1 rfl (.tmp 41) (.tmp 43) 32 3 rfl i0 Try.underlying32 HI.out HZ0.out HZ1.out HZ2.out ws.heap.size none 0 0 [] (xn : Int) rfl (OwnI.none_ _ _ _) rfl (by omega) hsz9 ?_; intro A2 c2' w2 hown2 hb2')
            have HO3 := Lib.hid hown2; have HB3 := Lib.hid (HBW.out.trans hb2')
            clear hown2 hb2'
            go_wp2
            go_roundw
            case rel =>
              have e : midToI W H xs a b (k + 1) = ([(xn : Int)], fx) := by rw [EST.out, midStepI, if_pos (by rw [← HFE.out]; exact h1), ← HFE.out]
              exact ⟨k + 1, 0 + 1, c2', A2, by omega, by go_num, rfl, by rw [e], by rw [e]; simpa using HO3.out, HB3.out⟩
            case measure => simp [intOf]; omega
          · have h1' : decide (fx < ml) = false := by simpa using h1
            by_cases h2 : fx = ml
            · subst h2
              go_wp2_with (at_builtin; refine wpList_app1 rfl (.tmp 41) (.tmp 43) 32 3 rfl i0 Try.underlying32 HI.out HZ0.out HZ1.out HZ2.out ws.heap.size A' n' c' mo (xn : Int) rfl HO.out rfl (by omega) hsz9 ?_; intro A2 c2' w2 hown2 hb2')
              have HO3 := Lib.hid hown2; have HB3 := Lib.hid (HBW.out.trans hb2')
              clear hown2 hb2'
              go_wp2
              go_roundw
              case rel =>
                have e : midToI W H xs a b (k + 1) = (mo ++ [(xn : Int)], fx) := by rw [EST.out, midStepI, if_neg (by rw [← HFE.out]; simp only; omega), if_pos (by rw [← HFE.out])]
                exact ⟨k + 1, n' + 1, c2', A2, by omega, by go_num, rfl, by rw [e], by rw [e]; exact HO3.out, HB3.out⟩
              case measure => simp [intOf]; omega
            · have h2' : (fx == ml) = false := by simpa using h2
              go_wp2
              go_roundw
              case rel =>
                have e : midToI W H xs a b (k + 1) = (mo, ml) := by rw [EST.out, midStepI, if_neg (by rw [← HFE.out]; simp only; omega), if_neg (by rw [← HFE.out]; exact h2)]
                exact ⟨k + 1, n', c', A', by omega, by go_num, rfl, by rw [e], by rw [e]; exact HO.out, HBW.out⟩
              case measure => simp [intOf]; omega
        · obtain rfl : k = n1 := by omega
          have HB := Lib.hid (below_next B.out hbw)
          have eW : (midToI W H xs a b k).1 = middlesV W H xs a b := by rw [mid_same HF.out k, middlesV, if_pos HW.out, midTo, midTo, List.take_of_length_le (by have := SL.out; omega), List.take_length]
          rw [eW] at hown
          have HO := Lib.hid (hown.lower B.out.size)
          clear hbw hown eW hl64
          go_wp2
          go_ret2
          exact ⟨_, _, _, by rw [HW.out]; rfl, HO.out, HB.out⟩
    · have hw : wholeV W H xs a b = false := by rw [wholeV, HOK.out, show decide ((partsL W H xs a b).length = 1) = false by simpa using h1]; rfl
      have HW := Lib.hid hw
      rw [show decide ((partsL W H xs a b).length = 1) = false by simpa using h1]
      clear hw
      go_wp2
      go_ret2
      exact ⟨none, 0, 0, by rw [HW.out]; rfl, by rw [middlesV, if_neg (by rw [HW.out]; simp)]; exact OwnI.none_ _ _ _, B.out⟩
  · have ho' : onB W H xs a b [] = false := by simpa using ho
    go_enter Try.func14, Try.ntmps14
    go_wp2_with fail
    refine (isLeaperOn_any _ _ _ _ _ _ _ _ _ _ _ [] _ ((ha.alloc _).alloc _) (Rd.nil _ _)).mono ?_
    rw [ho']
    rintro e wv ⟨rfl, hb⟩
    have hbx0 := below_box hb
    have a0 : wv.cell? ⟨w.heap.size, 0, none⟩ = some (.int .i64 W) := by simpa using newbox hbx0 0
    have a1 : wv.cell? ⟨w.heap.size, 1, none⟩ = some (.int .i64 H) := by simpa using newbox hbx0 1
    have a2 : wv.cell? ⟨w.heap.size, 2, none⟩ = some (.slice A n c) := by simpa using newbox hbx0 2
    have al : w.heap.size < wv.heap.size := by simpa using newbox_lt hbx0
    have l0 : wv.cell? ⟨w.heap.size + 1, 0, none⟩ = some (.int .i64 a) := by simpa using newbox hb 0
    have l1 : wv.cell? ⟨w.heap.size + 1, 1, none⟩ = some (.int .i64 b) := by simpa using newbox hb 1
    have ll : w.heap.size + 1 < wv.heap.size := by simpa using newbox_lt hb
    have B := Lib.hid (below_box hbx0)
    clear hb hbx0
    go_wp2
    go_ret2
    exact ⟨none, 0, 0, by rw [show wholeV W H xs a b = false by rw [wholeV, show okTwo W H xs a b = false by (rw [← onB_nil2, ho'])]; rfl]; rfl, by rw [middlesV, if_neg (by rw [wholeV, show okTwo W H xs a b = false by (rw [← onB_nil2, ho'])]; simp)]; exact OwnI.none_ _ _ _, B.out⟩

end Go.Proofs.Ytholjdllbhnldaa

namespace Go.Proofs.Ytholjdllbhnldaa
open Go.RowKit

theorem len_MiddlesOf (W H : Int) (xs : List Int) (a b : Int) : (middlesV W H xs a b).length ≤ 1000000 := by
  unfold middlesV
  split
  · rename_i h
    rw [wholeV, Bool.and_eq_true] at h
    have hF := on_facts h.1
    have h1 := midTo_len W H xs a b (cellsL W H xs).length
    have h2 := cellsTo_len (W := W) (H := H) (hs := xs) (W * H).toNat
    have := hF.n; have := hF.wh
    unfold cellsL at h1; unfold cellsL; omega
  · simp

end Go.Proofs.Ytholjdllbhnldaa
