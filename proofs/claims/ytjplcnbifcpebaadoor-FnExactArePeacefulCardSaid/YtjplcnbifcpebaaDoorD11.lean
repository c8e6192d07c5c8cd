/-
  ArePeaceful: what the law compares.
  ArePeaceful: both sides.
-/
import Derived.Test.YtjplcnbifcpebaaDoorD8
namespace Go.Proofs.YtjplcnbifcpebaaDoor
open Go.RowKit Go.Shelf

def peaceB (W a b : Int) (ps : List Int) : Bool := decide (ps.Pairwise fun y x => leapB W a b x y = false)
theorem and_zero {s t : Nat} : s &&& t = 0 ↔ ∀ i, ¬ (s.testBit i = true ∧ t.testBit i = true) := by
  constructor
  · intro h i ⟨h1, h2⟩
    have := Nat.testBit_and s t i
    rw [h, h1, h2] at this
    simp at this
  · intro h
    apply Nat.eq_of_testBit_eq
    intro i
    rw [Nat.testBit_and, Nat.zero_testBit]
    have := h i
    cases h1 : s.testBit i <;> cases h2 : t.testBit i <;> simp_all
theorem peaceB_iff {W H a b : Int} {xs ps : List Int} (hg : goodB W H xs = true) (hl : leaperB a b = true) (hs : setB W H xs ps = true) : freeB (glG W H xs a b) (setBits (ps.map Int.toNat)) = peaceB W a b ps := by
  have h64 := set_lt64 hg hs
  rw [Bool.eq_iff_iff, freeB, setB_bits hg hs, List.all_eq_true, peaceB, decide_eq_true_eq]
  have key : (∀ x ∈ ps, ((glG W H xs a b).getD (1 + x.toNat) 0 &&& setBits (ps.map Int.toNat) == 0) = true) ↔ ∀ x ∈ ps, ∀ y ∈ ps, leapB W a b x y = false := by
    constructor
    · intro h x hx y hy
      have h1 := h x hx
      rw [beq_iff_eq, and_zero, glG_at (h64 x hx).1 (h64 x hx).2 (cellsL_mem.2 ((setB_facts hs).1 x hx))] at h1
      have h2 := h1 y.toNat
      have hy64 := h64 y hy
      rw [near_bit hg, setBits_test _ _ _ rfl, show ((y.toNat : Nat) : Int) = y by omega] at h2
      cases hq : leapB W a b x y with
      | false => rfl
      | true => exact absurd ⟨⟨(setB_facts hs).1 y hy, hq⟩, List.mem_map.2 ⟨y, hy, rfl⟩⟩ h2
    · intro h x hx
      rw [beq_iff_eq, and_zero, glG_at (h64 x hx).1 (h64 x hx).2 (cellsL_mem.2 ((setB_facts hs).1 x hx))]
      rintro i ⟨h1, h2⟩
      rw [near_bit hg] at h1
      rw [setBits_test _ _ _ rfl, List.mem_map] at h2
      obtain ⟨y, hy, e⟩ := h2
      have hy64 := h64 y hy
      have : (i : Int) = y := by omega
      rw [this, h x hx y hy] at h1
      simp at h1
  rw [key]
  constructor
  · intro h
    rw [List.pairwise_iff_forall_sublist]
    intro y x hsub
    exact h x (hsub.subset (by simp)) y (hsub.subset (by simp))
  · intro h x hx y hy
    have hall : ∀ (l : List Int), l.Pairwise (fun y x => leapB W a b x y = false) → ∀ x ∈ l, ∀ y ∈ l, leapB W a b x y = false := by
      intro l
      induction l with
      | nil => intro _ x hx; cases hx
      | cons z t ih =>
        intro hp x hx y hy
        rw [List.pairwise_cons] at hp
        rcases List.mem_cons.1 hx with rfl | hx' <;> rcases List.mem_cons.1 hy with rfl | hy'
        · exact leapB_irr hl
        · rw [leapB_comm]; exact hp.1 y hy'
        · exact hp.1 x hx'
        · exact ih hp.2 x hx' y hy'
    exact hall ps h x hx y hy
def peaceV (W H : Int) (xs : List Int) (a b : Int) (ps : List Int) : Bool := askB W H xs a b ps && peaceB W a b ps

set_option maxRecDepth 100000 in
set_option maxHeartbeats 2000000 in
theorem guPeace_any (W H : Int) (A : Option Addr) (n c : Nat) (xs : List Int) (a b : Int) (A2 : Option Addr) (m c2 : Nat) (ps : List Int) (w : World) (hp : Rd w A2 m ps) (hcap : m ≤ c2) (hg : goodB W H xs = true) (hps : ∀ x ∈ ps, hasB W H xs x = true) :
    Calls Tryd.prog 30 #[brd W H A n c, lpr a b, .slice A2 m c2] w fun e w' => e = .returned (.bool (peaceB W a b ps)) ∧ Below w.heap.size w w' := by
  obtain ⟨hW, hH, _, _⟩ := goodB_iff.1 hg
  have HN := Lib.hid (cells_le hW hH)
  have HW := Lib.hid hW
  have HPS := Lib.hid hps
  have HPL := Lib.hid hp.1
  have m9 := hp.2.1
  clear hW hH hg hps
  go_enter Tryd.func30, Tryd.ntmps30
  obtain ⟨W1, hW1⟩ : ∃ W1, W1 = (w.alloc (.cells #[.int .i64 W, .int .i64 H, .slice A n c] 30)).alloc (.cells #[.int .i64 a, .int .i64 b] 32) := ⟨_, rfl⟩
  have B := Lib.hid (show Below w.heap.size w W1 by rw [hW1]; exact (below_new (Below.refl _ _) _).alloc (by simp) _)
  have a0 : W1.cell? ⟨w.heap.size, 0, none⟩ = some (.int .i64 W) := by rw [hW1]; go_simp
  have a1 : W1.cell? ⟨w.heap.size, 1, none⟩ = some (.int .i64 H) := by rw [hW1]; go_simp
  have a2 : W1.cell? ⟨w.heap.size, 2, none⟩ = some (.slice A n c) := by rw [hW1]; go_simp
  have l0 : W1.cell? ⟨w.heap.size + 1, 0, none⟩ = some (.int .i64 a) := by rw [hW1]; go_simp
  have l1 : W1.cell? ⟨w.heap.size + 1, 1, none⟩ = some (.int .i64 b) := by rw [hW1]; go_simp
  have ga : w.heap.size < W1.heap.size := by rw [hW1]; simp; omega
  have gl : w.heap.size + 1 < W1.heap.size := by rw [hW1]; simp
  have RP := Lib.hid (hp.keep B.out)
  clear hp
  go_wp2
  rw [← hW1]
  clear hW1
  go_loopw [13] (fun i wr => ∃ k : Nat, k ≤ m ∧ i = .int .i64 k ∧ (ps.take k).Pairwise (fun y x => leapB W a b x y = false) ∧ Below W1.heap.size W1 wr) (fun i _ => m - (intOf i).toNat)
  case atStart => exact ⟨0, Nat.zero_le _, rfl, by simp, Below.refl _ _⟩
  case round =>
    obtain ⟨k, hk, rfl, hpw, hbw⟩ := hrel
    have HPW := Lib.hid hpw
    clear hpw
    by_cases hlt : k < m
    · obtain ⟨bb, oo, x, rfl, hg1, hx, x0⟩ := RP.out.at_ hlt
      have HX := Lib.hid hx
      have HXR := Lib.hid (range_of HN.out (HPS.out x (List.mem_of_getElem? hx)))
      have RR := Lib.hid (RP.out.keep hbw)
      replace x0 := cell_keep x0 hg1 hbw
      have b0 := cell_keep a0 ga hbw; have b1 := cell_keep a1 ga hbw; have b2 := cell_keep a2 ga hbw; have m0 := cell_keep l0 gl hbw; have m1 := cell_keep l1 gl hbw
      have gb := lt_keep ga hbw; have gm := lt_keep gl hbw
      have HB := Lib.hid hbw
      have hsw := hbw.size
      have hkc : (k : Int) ≤ (c2 : Int) := by omega
      clear hx hbw
      go_wp2
      go_loopw [22] (fun i wz => ∃ j : Nat, j ≤ k ∧ i = .int .i64 j ∧ (∀ y ∈ ps.take j, leapB W a b x y = false) ∧ Below wr.heap.size wr wz) (fun i _ => k - (intOf i).toNat)
      case atStart => exact ⟨0, Nat.zero_le _, rfl, by simp, Below.refl _ _⟩
      case round =>
        obtain ⟨j, hj, rfl, hfree, hbi⟩ := hrel
        have HFR := Lib.hid hfree
        clear hfree
        by_cases hjk : j < k
        · obtain ⟨b3, o3, y, hAe, hg3, hy, y0⟩ := RR.out.at_ (Nat.lt_trans hjk hlt)
          cases hAe
          have HY := Lib.hid hy
          have HYR := Lib.hid (range_of HN.out (HPS.out y (List.mem_of_getElem? hy)))
          replace y0 := cell_keep y0 hg3 hbi
          have d0 := cell_keep b0 gb hbi; have d1 := cell_keep b1 gb hbi; have d2 := cell_keep b2 gb hbi; have e0 := cell_keep m0 gm hbi; have e1 := cell_keep m1 gm hbi
          have HBI := Lib.hid hbi
          clear hy hbi hg3
          cases hq : leapB W a b x y with
          | true =>
            have HQ := Lib.hid hq
            clear hq
            go_wp2_with fail
            refine (boIs_any W H A n c a b x y _ HW.out HXR.out HYR.out).mono ?_
            rw [HQ.out]
            rintro e wz ⟨rfl, hb⟩
            replace HBI := Lib.hid (below_next HBI.out hb)
            clear hb
            go_wp2
            go_ret
            refine ⟨ret_bool ?_, B.out.trans ((HB.out.trans (HBI.out.mono hsw)).mono B.out.size)⟩
            symm
            rw [peaceB]
            refine decide_eq_false fun hall => ?_
            have h1 : (ps.take (k + 1)).Pairwise (fun y x => leapB W a b x y = false) := hall.sublist (List.take_sublist _ _)
            rw [List.take_add_one, HX.out, List.pairwise_append] at h1
            have h2 := h1.2.2 y (List.mem_of_getElem? (by rw [List.getElem?_take, if_pos hjk]; exact HY.out)) x (by simp)
            rw [HQ.out] at h2
            cases h2
          | false =>
            have HQ := Lib.hid hq
            clear hq
            go_wp2_with fail
            refine (boIs_any W H A n c a b x y _ HW.out HXR.out HYR.out).mono ?_
            rw [HQ.out]
            rintro e wz ⟨rfl, hb⟩
            replace HBI := Lib.hid (below_next HBI.out hb)
            clear hb
            go_wp2
            go_roundw
            case rel => exact ⟨j + 1, by omega, by go_num, by
              intro z hz
              rw [List.take_add_one, HY.out] at hz
              rcases List.mem_append.1 hz with hz | hz
              · exact HFR.out z hz
              · simp at hz; subst hz; exact HQ.out, HBI.out⟩
            case measure => simp [intOf]; omega
        · obtain rfl : j = k := by omega
          have HB2 := Lib.hid (HB.out.trans (hbi.mono hsw))
          clear hbi HB hsw b0 b1 b2 m0 m1 gb gm RR
          go_wp2
          go_roundw
          case rel => exact ⟨j + 1, by omega, by go_num, by
            rw [List.take_add_one, HX.out, List.pairwise_append]
            refine ⟨HPW.out, by simp, fun y hy z hz => ?_⟩
            simp at hz; subst hz
            exact HFR.out y hy, HB2.out⟩
          case measure => simp [intOf]; omega
    · have HV := Lib.hid (show peaceB W a b ps = true by
        rw [peaceB]; refine decide_eq_true ?_
        have h := HPW.out
        rwa [List.take_of_length_le (by have := HPL.out; omega)] at h)
      have HB := Lib.hid hbw
      clear hbw
      go_wp2
      go_ret
      exact ⟨ret_bool HV.out.symm, B.out.trans (HB.out.mono B.out.size)⟩
end Go.Proofs.YtjplcnbifcpebaaDoor

namespace Go.Proofs.YtjplcnbifcpebaaDoor
open Go.RowKit Go.Shelf

set_option maxRecDepth 100000 in
set_option maxHeartbeats 1000000 in
theorem spec_ArePeaceful (W H : Int) (A : Option Addr) (n c : Nat) (xs : List Int) (a b : Int) (A2 : Option Addr) (m c2 : Nat) (ps : List Int) (w : World) (ha : Rd w A n xs) (hp : Rd w A2 m ps) (hcap : m ≤ c2) :
    Calls Tryd.prog 19 #[brd W H A n c, lpr a b, .slice A2 m c2] w fun e w' => e = .returned (.tuple #[.bool (peaceV W H xs a b ps), .bool (askB W H xs a b ps)]) ∧ Below w.heap.size w w' := by
  cases ht : askB W H xs a b ps with
  | true =>
    have HT := Lib.hid ht
    go_enter Tryd.func19, Tryd.ntmps19
    go_wp2_with fail
    refine (guAsked_any W H A n c xs a b A2 m c2 ps _ ((ha.alloc _).alloc _) ((hp.alloc _).alloc _)).mono ?_
    rw [ht]
    rintro e wv ⟨rfl, hb⟩
    have hbx0 := below_box hb
    have a0 : wv.cell? ⟨w.heap.size, 0, none⟩ = some (.int .i64 W) := by simpa using newbox hbx0 0
    have a1 : wv.cell? ⟨w.heap.size, 1, none⟩ = some (.int .i64 H) := by simpa using newbox hbx0 1
    have a2 : wv.cell? ⟨w.heap.size, 2, none⟩ = some (.slice A n c) := by simpa using newbox hbx0 2
    have l0 : wv.cell? ⟨w.heap.size + 1, 0, none⟩ = some (.int .i64 a) := by simpa using newbox hb 0
    have l1 : wv.cell? ⟨w.heap.size + 1, 1, none⟩ = some (.int .i64 b) := by simpa using newbox hb 1
    have B := Lib.hid (below_box hbx0)
    clear hb hbx0 ht
    go_wp2_with fail
    refine (guPeace_any W H A n c xs a b A2 m c2 ps _ (hp.keep B.out) hcap (ask_parts HT.out).1 (setB_facts (ask_parts HT.out).2.2).1).mono ?_
    rintro e wv ⟨rfl, hb⟩
    replace B := Lib.hid (below_next B.out hb)
    clear hb
    go_wp2
    go_ret2
    exact ⟨by rw [peaceV, HT.out, Bool.true_and]; rfl, B.out⟩
  | false =>
    go_enter Tryd.func19, Tryd.ntmps19
    go_wp2_with fail
    refine (guAsked_any W H A n c xs a b A2 m c2 ps _ ((ha.alloc _).alloc _) ((hp.alloc _).alloc _)).mono ?_
    rw [ht]
    rintro e wv ⟨rfl, hb⟩
    have B := Lib.hid (below_box (below_box hb))
    clear hb
    go_wp2
    go_ret2
    exact ⟨by rw [peaceV, ht, Bool.false_and]; rfl, B.out⟩

set_option maxRecDepth 100000 in
set_option maxHeartbeats 1000000 in
theorem impl_ArePeaceful (W H : Int) (A : Option Addr) (n c : Nat) (xs : List Int) (a b : Int) (A2 : Option Addr) (m c2 : Nat) (ps : List Int) (w : World) (ha : Rd w A n xs) (hp : Rd w A2 m ps) (_ : m ≤ c2) (hT : Tab64 w ∧ 0 < w.heap.size) :
    Calls Tryd.prog 20 #[brd W H A n c, lpr a b, .slice A2 m c2] w fun e w' => e = .returned (.tuple #[.bool (peaceV W H xs a b ps), .bool (askB W H xs a b ps)]) ∧ Below w.heap.size w w' := by
  cases ht : askB W H xs a b ps with
  | true =>
    have HT := Lib.hid ht
    obtain ⟨hg, hl, hsb⟩ := ask_parts ht
    have HG := Lib.hid hg; have HL := Lib.hid hl; have HS := Lib.hid hsb
    have HTab := Lib.hid hT
    clear hg hl hsb hT
    go_enter Tryd.func20, Tryd.ntmps20
    go_wp2_with fail
    refine (isSetOn_any W H A n c xs a b A2 m c2 ps _ ((ha.alloc _).alloc _) ((hp.alloc _).alloc _)).mono ?_
    rw [ht]
    rintro e wv ⟨rfl, hb⟩
    have hbx0 := below_box hb
    have a0 : wv.cell? ⟨w.heap.size, 0, none⟩ = some (.int .i64 W) := by simpa using newbox hbx0 0
    have a1 : wv.cell? ⟨w.heap.size, 1, none⟩ = some (.int .i64 H) := by simpa using newbox hbx0 1
    have a2 : wv.cell? ⟨w.heap.size, 2, none⟩ = some (.slice A n c) := by simpa using newbox hbx0 2
    have l0 : wv.cell? ⟨w.heap.size + 1, 0, none⟩ = some (.int .i64 a) := by simpa using newbox hb 0
    have l1 : wv.cell? ⟨w.heap.size + 1, 1, none⟩ = some (.int .i64 b) := by simpa using newbox hb 1
    have B := Lib.hid (below_box hbx0)
    clear hb hbx0 ht
    go_wp2_with fail
    refine (groundOf_any W H A n c xs a b _ (ha.keep B.out) HG.out HL.out (tab_keep HTab.out B.out).1 (tab_keep HTab.out B.out).2).mono ?_
    rintro e wv ⟨rfl, hb⟩
    replace B := Lib.hid (below_next B.out hb)
    clear hb a0 a1 a2 l0 l1
    obtain ⟨G, hG⟩ : ∃ G, G = glG W H xs a b := ⟨_, rfl⟩
    rw [show gl W H xs a b (cellsL W H xs) = G from hG.symm]
    have HGG := Lib.hid hG
    clear hG
    go_wp2_with fail
    refine (setOf_any A2 m c2 ps _ (hp.keep B.out) (set_lt64 HG.out HS.out)).mono ?_
    rintro e wv ⟨rfl, hb⟩
    replace B := Lib.hid (below_next B.out hb)
    clear hb
    have hG65 : Hid (G.length = 65) := Lib.hid (by rw [HGG.out]; exact glG_len _ _ _ _ _)
    have hGlt : Hid (∀ x ∈ G, x < 18446744073709551616) := Lib.hid (by rw [HGG.out]; exact glG_lt HG.out)
    have HV := Lib.hid (show freeB G (setBits (ps.map Int.toNat)) = peaceB W a b ps by rw [HGG.out]; exact peaceB_iff HG.out HL.out HS.out)
    obtain ⟨s, hs⟩ : ∃ s, s = setBits (ps.map Int.toNat) := ⟨_, rfl⟩
    rw [← hs] at HV ⊢
    have hs64 : Hid (s < 18446744073709551616) := Lib.hid (by rw [hs]; exact set_lt (set_lt64 HG.out HS.out))
    clear hs
    go_wp2_with fail
    refine (isFree_any G hG65.out hGlt.out s hs64.out _ (tab_keep HTab.out B.out).1 (tab_keep HTab.out B.out).2).mono ?_
    rw [HV.out]
    rintro e wv ⟨rfl, hb⟩
    replace B := Lib.hid (below_next B.out hb)
    clear hb
    go_wp2
    go_ret2
    exact ⟨by rw [peaceV, HT.out, Bool.true_and]; rfl, B.out⟩
  | false =>
    clear hT
    go_enter Tryd.func20, Tryd.ntmps20
    go_wp2_with fail
    refine (isSetOn_any W H A n c xs a b A2 m c2 ps _ ((ha.alloc _).alloc _) ((hp.alloc _).alloc _)).mono ?_
    rw [ht]
    rintro e wv ⟨rfl, hb⟩
    have B := Lib.hid (below_box (below_box hb))
    clear hb
    go_wp2
    go_ret2
    exact ⟨by rw [peaceV, ht, Bool.false_and]; rfl, B.out⟩
end Go.Proofs.YtjplcnbifcpebaaDoor
