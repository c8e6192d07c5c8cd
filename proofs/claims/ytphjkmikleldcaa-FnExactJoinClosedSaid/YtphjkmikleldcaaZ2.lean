/-
  Contracts: areWalks: walks that have no cell in common.
-/
import Derived.Test.YtphjkmikleldcaaK2
import Derived.Test.YtphjkmikleldcaaZ0
import Derived.Laws.Bits128
namespace Go.Proofs.Ytphjkmikleldcaa
open Go.RowKit

/-- A row of slices: each of them reads as its list. -/
def WalksAt (w : World) (g : Nat) (pss : List (List Int)) : Prop := g < w.heap.size ∧ ∀ i ps, pss[i]? = some ps → ∃ A n c, w.cell? ⟨g, i, none⟩ = some (.slice A n c) ∧ Rd w A n ps
theorem WalksAt.keep {w w' : World} {g : Nat} {pss : List (List Int)} (h : WalksAt w g pss) (hb : Below w.heap.size w w') : WalksAt w' g pss :=
  ⟨lt_keep h.1 hb, fun i ps hi => by obtain ⟨A, n, c, h1, h2⟩ := h.2 i ps hi; exact ⟨A, n, c, cell_keep h1 h.1 hb, h2.keep hb⟩⟩
def wkAt (W H : Int) (hs : List Int) (a b : Int) (pss : List (List Int)) (i : Nat) : Bool := walkB W H hs a b (pss.getD i []) && apartB (pss.take i).flatten (pss.getD i [])
def wksB (W H : Int) (hs : List Int) (a b : Int) (pss : List (List Int)) : Bool := (List.range pss.length).all (wkAt W H hs a b pss)
theorem wks_one (W H : Int) (hs : List Int) (a b : Int) (ps : List Int) : wksB W H hs a b [ps] = walkB W H hs a b ps := by
  simp [wksB, wkAt, List.range_succ, apart_nil]
theorem wks_two (W H : Int) (hs : List Int) (a b : Int) (ps qs : List Int) : wksB W H hs a b [ps, qs] = (walkB W H hs a b ps && walkB W H hs a b qs && apartB ps qs) := by
  simp [wksB, wkAt, List.range_succ, apart_nil, Bool.and_assoc]
theorem walk_path2 {W H a b : Int} {hs ps : List Int} (h : walkB W H hs a b ps = true) : pathB W H hs a b ps = true := by
  simp only [walkB, Bool.and_eq_true] at h; exact h.1

set_option maxRecDepth 100000 in
set_option maxHeartbeats 4000000 in
theorem areWalks_any (W H : Int) (A : Option Addr) (n c : Nat) (xs : List Int) (a b : Int) (g N : Nat) (pss : List (List Int)) (w : World) (ha : Rd w A n xs) (hp : WalksAt w g pss) (hN : pss.length = N) (hN9 : N ≤ 1000) :
    Calls Try.prog 54 #[brd W H A n c, lpr a b, .slice (some ⟨g, 0, none⟩) N N] w fun e w' => e = .returned (.bool (twoV W H xs a b && wksB W H xs a b pss)) ∧ Below w.heap.size w w' := by
  obtain ⟨W2, hW2⟩ : ∃ W2, W2 = (w.alloc (.cells #[.int .i64 W, .int .i64 H, .slice A n c] 30)).alloc (.cells #[.int .i64 a, .int .i64 b] 32) := ⟨_, rfl⟩
  have a0 : W2.cell? ⟨w.heap.size, 0, none⟩ = some (.int .i64 W) := by rw [hW2]; go_simp
  have a1 : W2.cell? ⟨w.heap.size, 1, none⟩ = some (.int .i64 H) := by rw [hW2]; go_simp
  have a2 : W2.cell? ⟨w.heap.size, 2, none⟩ = some (.slice A n c) := by rw [hW2]; go_simp
  have l0 : W2.cell? ⟨w.heap.size + 1, 0, none⟩ = some (.int .i64 a) := by rw [hW2]; go_simp
  have l1 : W2.cell? ⟨w.heap.size + 1, 1, none⟩ = some (.int .i64 b) := by rw [hW2]; go_simp
  have al : w.heap.size < W2.heap.size := by rw [hW2]; simp; omega
  have ll : w.heap.size + 1 < W2.heap.size := by rw [hW2]; simp
  have B := Lib.hid (show Below w.heap.size w W2 by rw [hW2]; exact below_new (below_new (Below.refl _ _) _) _)
  have R := Lib.hid (ha.keep B.out); have RP := Lib.hid (hp.keep B.out)
  clear ha hp
  cases ht : twoV W H xs a b with
  | true =>
    have HT := Lib.hid ht
    have HG := Lib.hid (two_gK ht)
    clear ht
    go_enter Try.func54, Try.ntmps54
    go_wp2_with fail
    rw [← hW2]
    clear hW2
    refine (isOn0_any _ _ _ _ _ _ _ _ _ R.out).mono ?_
    rw [HT.out]
    rintro e wv ⟨rfl, hb⟩
    replace a0 := cell_keep a0 al hb; replace a1 := cell_keep a1 al hb; replace a2 := cell_keep a2 al hb; replace al := lt_keep al hb
    replace l0 := cell_keep l0 ll hb; replace l1 := cell_keep l1 ll hb; replace ll := lt_keep ll hb
    replace R := Lib.hid (R.out.keep hb); replace RP := Lib.hid (RP.out.keep hb)
    replace B := Lib.hid (below_next B.out hb)
    clear hb
    have HA := Lib.hid (⟨a0, a1, a2, l0, l1⟩ : wv.cell? ⟨w.heap.size, 0, none⟩ = some (.int .i64 W) ∧ wv.cell? ⟨w.heap.size, 1, none⟩ = some (.int .i64 H) ∧ wv.cell? ⟨w.heap.size, 2, none⟩ = some (.slice A n c) ∧ wv.cell? ⟨w.heap.size + 1, 0, none⟩ = some (.int .i64 a) ∧ wv.cell? ⟨w.heap.size + 1, 1, none⟩ = some (.int .i64 b))
    have HNN := Lib.hid hN
    clear a0 a1 a2 l0 l1 hN
    go_wp2
    go_loopw [7, 16] (fun s i wr => ∃ (k S : Nat), k ≤ N ∧ i = .int .i64 k ∧ s = .int .u64 (S : Int) ∧ S = setBits ((pss.take k).flatten.map Int.toNat) ∧ (∀ j < k, wkAt W H xs a b pss j = true) ∧ Below wv.heap.size wv wr) (fun _ i _ => N - (intOf i).toNat)
    case atStart => exact ⟨0, 0, Nat.zero_le _, rfl, rfl, by simp [setBits], fun j hj => absurd hj (Nat.not_lt_zero _), Below.refl _ _⟩
    case round =>
      obtain ⟨k, S, hk, rfl, rfl, hs, hall, hbw⟩ := hrel
      have HS := Lib.hid hs
      have HALL := Lib.hid hall
      have HB := Lib.hid hbw
      clear hs hall
      by_cases hlt : k < N
      · obtain ⟨ps, hps⟩ : ∃ ps, pss[k]? = some ps := ⟨_, List.getElem?_eq_getElem (show k < pss.length by have := HNN.out; omega)⟩
        have HPS := Lib.hid hps
        obtain ⟨A3, n3, c3, y0, hr⟩ := (RP.out.keep hbw).2 k ps hps
        have RD := Lib.hid hr
        have b0 := cell_keep HA.out.1 al hbw; have b1 := cell_keep HA.out.2.1 al hbw; have b2 := cell_keep HA.out.2.2.1 al hbw; have m0 := cell_keep HA.out.2.2.2.1 ll hbw; have m1 := cell_keep HA.out.2.2.2.2 ll hbw
        have RR := Lib.hid (R.out.keep hbw)
        have HPD := Lib.hid (show pss.getD k [] = ps by rw [List.getD_eq_getElem?_getD, hps]; rfl)
        clear hbw hps hr
        have hmet : ∀ x ∈ (pss.take k).flatten, 0 ≤ x ∧ x < 64 := by
          intro x hx
          obtain ⟨l, hl, hxl⟩ := List.mem_flatten.1 hx
          obtain ⟨j, hj, rfl⟩ := List.mem_iff_getElem.1 hl
          rw [List.length_take] at hj
          have h1 := HALL.out j (by omega)
          simp only [wkAt, Bool.and_eq_true] at h1
          have h2 : pss.getD j [] = (pss.take k)[j]'(by rw [List.length_take]; omega) := by rw [List.getElem_take, List.getD_eq_getElem?_getD, List.getElem?_eq_getElem (by omega)]; rfl
          rw [h2] at h1
          exact path_64 HG.out (walk_path2 h1.1) x hxl
        have HMET := Lib.hid hmet
        have hS9 : S < 18446744073709551616 := by rw [HS.out]; exact set_lt hmet
        clear hmet
        cases hw : walkB W H xs a b ps with
        | true =>
          have HW := Lib.hid hw
          have H64 := Lib.hid (path_64 HG.out (walk_path2 hw))
          clear hw
          obtain ⟨T, hT⟩ : ∃ T, T = setBits (ps.map Int.toNat) := ⟨_, rfl⟩
          have HTT := Lib.hid hT
          have hT9 : T < 18446744073709551616 := by rw [hT]; exact set_lt H64.out
          clear hT
          have hand := and_nat S T (S : Int) hS9 hT9 rfl
          have hor := bits_or_u64_nat S T hS9 hT9
          have hmm := setBits_meet HMET.out H64.out
          rw [← HS.out, ← HTT.out] at hmm
          cases hap : apartB (pss.take k).flatten ps with
          | true =>
            have h0 : S &&& T = 0 := hmm.2 hap
            rw [h0] at hand
            have HAP := Lib.hid hap
            clear hap hmm h0
            go_wp2_with fail
            refine (isWalk_any _ _ _ _ _ _ _ _ _ _ _ _ _ RR.out RD.out HG.out).mono ?_
            rw [HW.out]
            rintro e wz ⟨rfl, hb⟩
            replace RR := Lib.hid (RR.out.keep hb); replace RD := Lib.hid (RD.out.keep hb)
            replace HB := Lib.hid (below_next HB.out hb)
            clear hb
            go_wp2_with fail
            refine (setOf_any _ _ _ _ _ RD.out H64.out).mono ?_
            rw [← HTT.out]
            rintro e wz ⟨rfl, hb⟩
            replace RR := Lib.hid (RR.out.keep hb); replace RD := Lib.hid (RD.out.keep hb)
            replace HB := Lib.hid (below_next HB.out hb)
            clear hb
            go_wp2_with fail
            refine (setOf_any _ _ _ _ _ RD.out H64.out).mono ?_
            rw [← HTT.out]
            rintro e wz ⟨rfl, hb⟩
            replace HB := Lib.hid (below_next HB.out hb)
            clear hb b0 b1 b2 m0 m1 y0 hand
            go_wp2
            go_roundw
            case rel => exact ⟨k + 1, S ||| T, by omega, by go_num, rfl, by rw [List.take_add_one, HPS.out]; simp only [Option.toList_some, List.flatten_append, List.map_append, setBits_append, List.flatten_cons, List.flatten_nil, List.append_nil]; rw [← HS.out, ← HTT.out], fun j hj => by
                by_cases hjk : j = k
                · subst hjk; rw [wkAt, HPD.out, HW.out, HAP.out]; rfl
                · exact HALL.out j (by omega), HB.out⟩
            case measure => simp [intOf]; omega
          | false =>
            have h0 : ¬ S &&& T = 0 := fun h => by rw [hmm.1 h] at hap; cases hap
            obtain ⟨V, hV⟩ : ∃ V, V = S &&& T := ⟨_, rfl⟩
            rw [← hV] at hand h0
            clear hV hor
            have HAP := Lib.hid hap
            clear hap hmm
            go_wp2_with fail
            refine (isWalk_any _ _ _ _ _ _ _ _ _ _ _ _ _ RR.out RD.out HG.out).mono ?_
            rw [HW.out]
            rintro e wz ⟨rfl, hb⟩
            replace RD := Lib.hid (RD.out.keep hb)
            replace HB := Lib.hid (below_next HB.out hb)
            clear hb
            go_wp2_with fail
            refine (setOf_any _ _ _ _ _ RD.out H64.out).mono ?_
            rw [← HTT.out]
            rintro e wz ⟨rfl, hb⟩
            replace HB := Lib.hid (below_next HB.out hb)
            clear hb b0 b1 b2 m0 m1 y0
            have hne : ¬ (V : Int) = 0 := by omega
            go_wp2
            go_ret
            exact ⟨ret_bool (by rw [Bool.true_and]; symm; rw [wksB, List.all_eq_false]; exact ⟨k, List.mem_range.2 (by have := HNN.out; omega), by rw [wkAt, HPD.out, HAP.out]; simp⟩), B.out.trans (HB.out.mono B.out.size)⟩
        | false =>
          have HW := Lib.hid hw
          clear hw
          go_wp2_with fail
          refine (isWalk_any _ _ _ _ _ _ _ _ _ _ _ _ _ RR.out RD.out HG.out).mono ?_
          rw [HW.out]
          rintro e wz ⟨rfl, hb⟩
          replace HB := Lib.hid (below_next HB.out hb)
          clear hb b0 b1 b2 m0 m1 y0
          go_wp2
          go_ret
          exact ⟨ret_bool (by rw [Bool.true_and]; symm; rw [wksB, List.all_eq_false]; exact ⟨k, List.mem_range.2 (by have := HNN.out; omega), by rw [wkAt, HPD.out, HW.out]; simp⟩), B.out.trans (HB.out.mono B.out.size)⟩
      · clear hbw
        go_wp2
        go_ret
        exact ⟨ret_bool (by rw [Bool.true_and]; symm; rw [wksB, List.all_eq_true]; exact fun j hj => HALL.out j (by have := List.mem_range.1 hj; have := HNN.out; omega)), B.out.trans (HB.out.mono B.out.size)⟩
  | false =>
    have HT := Lib.hid ht
    clear ht
    go_enter Try.func54, Try.ntmps54
    go_wp2_with fail
    rw [← hW2]
    clear hW2
    refine (isOn0_any _ _ _ _ _ _ _ _ _ R.out).mono ?_
    rw [HT.out]
    rintro e wv ⟨rfl, hb⟩
    replace B := Lib.hid (below_next B.out hb)
    clear hb a0 a1 a2 l0 l1 al ll
    go_wp2
    go_ret
    exact ⟨ret_bool (by rw [Bool.false_and]), B.out⟩
end Go.Proofs.Ytphjkmikleldcaa
