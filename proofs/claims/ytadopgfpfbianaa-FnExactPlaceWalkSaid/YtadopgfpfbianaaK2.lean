/-
  Contracts: walks.
-/
import Derived.Test.YtadopgfpfbianaaB15
import Derived.Test.YtadopgfpfbianaaK1
import Derived.Test.YtadopgfpfbianaaZ1
namespace Go.Proofs.Ytadopgfpfbianaa
open Go.RowKit

theorem goes_all {W H a b : Int} {hs : List Int} : ∀ (ps : List Int) (p : Option Int), goesB W H hs a b p ps = true → ∀ x ∈ ps, hasB W H hs x = true
  | [], _, _, x, h => by cases h
  | c :: t, p, h, x, hx => by
    simp only [goesB, Bool.and_eq_true] at h
    rcases List.mem_cons.1 hx with rfl | h1
    · exact h.1.1
    · exact goes_all t _ h.2 x h1
theorem path_has {W H a b : Int} {hs ps : List Int} (h : pathB W H hs a b ps = true) : ∀ x ∈ ps, hasB W H hs x = true := by
  simp only [pathB, Bool.and_eq_true] at h
  exact goes_all ps none h.2
theorem path_len {W H a b : Int} {hs ps : List Int} (h : pathB W H hs a b ps = true) : 1 ≤ ps.length ∧ ps.length ≤ 64 := by
  simp only [pathB, Bool.and_eq_true, decide_eq_true_eq] at h
  exact h.1
theorem path_64 {W H a b : Int} {hs ps : List Int} (hg : goodB W H hs = true) (h : pathB W H hs a b ps = true) : ∀ x ∈ ps, 0 ≤ x ∧ x < 64 := by
  intro x hx
  have h1 := (hasB_iff.1 (path_has h x hx)).1
  obtain ⟨hW, hH, _, _⟩ := goodB_iff.1 hg
  have := cells_le hW hH
  omega
def walkB (W H : Int) (hs : List Int) (a b : Int) (ps : List Int) : Bool := pathB W H hs a b ps && decide ps.Nodup
def tourB (W H : Int) (hs : List Int) (a b : Int) (ps : List Int) : Bool := walkB W H hs a b ps && decide (ps.length = (cellsL W H hs).length)
def closedB (W H : Int) (hs : List Int) (a b : Int) (ps : List Int) : Bool := decide (3 ≤ ps.length) && tourB W H hs a b ps && leapB W a b (ps.getD (ps.length - 1) 0) (ps.getD 0 0)
theorem two_gK {W H a b : Int} {xs : List Int} (h : twoV W H xs a b = true) : goodB W H xs = true := by simp only [twoV, Bool.and_eq_true] at h; exact h.1
theorem nodup_snoc {ps : List Int} {k : Nat} {x : Int} (hx : ps[k]? = some x) (h : (ps.take k).Nodup) (hn : (ps.take k).contains x = false) : (ps.take (k + 1)).Nodup := by
  rw [List.take_add_one, hx]
  simp only [List.contains_eq_mem, decide_eq_false_iff_not] at hn
  rw [List.nodup_append]
  refine ⟨h, by simp, fun y hy z hz e => ?_⟩
  have : z = x := by simpa using hz
  exact hn (this ▸ e ▸ hy)
theorem nodup_hit {ps : List Int} {k : Nat} {x : Int} (hx : ps[k]? = some x) (hn : (ps.take k).contains x = true) : ¬ ps.Nodup := by
  intro h
  have h2 : (ps.take (k + 1)).Nodup := h.sublist (List.take_sublist _ _)
  rw [List.take_add_one, hx, List.nodup_append] at h2
  simp only [List.contains_eq_mem, decide_eq_true_eq] at hn
  exact h2.2.2 x hn x (by simp) rfl
theorem nodup_map {ps : List Int} (h : ∀ x ∈ ps, 0 ≤ x ∧ x < 64) : (ps.map Int.toNat).Nodup ↔ ps.Nodup := by
  induction ps with
  | nil => simp
  | cons x t ih =>
    rw [List.map_cons, List.nodup_cons, List.nodup_cons, ih (fun y hy => h y (List.mem_cons_of_mem _ hy))]
    have : x.toNat ∈ t.map Int.toNat ↔ x ∈ t := by
      rw [List.mem_map]
      constructor
      · rintro ⟨y, hy, e⟩
        have h1 := h x List.mem_cons_self; have h2 := h y (List.mem_cons_of_mem _ hy)
        have : y = x := by omega
        exact this ▸ hy
      · intro hx; exact ⟨x, hx, rfl⟩
    rw [this]
/-- How many bits the set of a walk has. -/
theorem pop_walk {ps : List Int} (h : ∀ x ∈ ps, 0 ≤ x ∧ x < 64) : popN 64 (setBits (ps.map Int.toNat)) = ps.length ↔ ps.Nodup := by
  have := (popN_set _ (ps.map Int.toNat) rfl (fun c hc => by obtain ⟨y, hy, rfl⟩ := List.mem_map.1 hc; have := h y hy; omega)).2
  rw [List.length_map, nodup_map h] at this
  exact this
theorem set_lt {ps : List Int} (h : ∀ x ∈ ps, 0 ≤ x ∧ x < 64) : setBits (ps.map Int.toNat) < 18446744073709551616 := setBits_lt _ (fun c hc => by obtain ⟨y, hy, rfl⟩ := List.mem_map.1 hc; have := h y hy; omega)

theorem boTwoV_any (W H : Int) (A : Option Addr) (n c : Nat) (xs : List Int) (a b : Int) (w : World) (ha : Rd w A n xs) :
    Calls Try.prog 61 #[brd W H A n c, lpr a b] w fun e w' => e = .returned (.bool (twoV W H xs a b)) ∧ Below w.heap.size w w' := boTwo_any W H A n c xs a b w ha
set_option maxRecDepth 100000 in
set_option maxHeartbeats 2000000 in
theorem toWalk_any (W H : Int) (A : Option Addr) (n c : Nat) (xs : List Int) (a b : Int) (A2 : Option Addr) (m c2 : Nat) (ps : List Int) (w : World) (ha : Rd w A n xs) (hp : Rd w A2 m ps) (hcap : m ≤ c2) (hg : goodB W H xs = true) :
    Calls Try.prog 95 #[brd W H A n c, lpr a b, .slice A2 m c2] w fun e w' => e = .returned (.bool (walkB W H xs a b ps)) ∧ Below w.heap.size w w' := by
  by_cases hP : pathB W H xs a b ps = true
  · go_enter Try.func95, Try.ntmps95
    go_wp2_with fail
    refine (boPath_any _ _ _ _ _ _ _ _ _ _ _ _ _ ((ha.alloc _).alloc _) ((hp.alloc _).alloc _) hg).mono ?_
    rw [hP]
    rintro e wv ⟨rfl, hb⟩
    have hbx0 := below_box hb
    have a0 : wv.cell? ⟨w.heap.size, 0, none⟩ = some (.int .i64 W) := by simpa using newbox hbx0 0
    have a1 : wv.cell? ⟨w.heap.size, 1, none⟩ = some (.int .i64 H) := by simpa using newbox hbx0 1
    have a2 : wv.cell? ⟨w.heap.size, 2, none⟩ = some (.slice A n c) := by simpa using newbox hbx0 2
    have al : w.heap.size < wv.heap.size := by simpa using newbox_lt hbx0
    have l0 : wv.cell? ⟨w.heap.size + 1, 0, none⟩ = some (.int .i64 a) := by simpa using newbox hb 0
    have l1 : wv.cell? ⟨w.heap.size + 1, 1, none⟩ = some (.int .i64 b) := by simpa using newbox hb 1
    have ll : w.heap.size + 1 < wv.heap.size := by simpa using newbox_lt hb
    have B := Lib.hid (below_box hbx0)
    clear hb hbx0
    have R := Lib.hid (ha.keep B.out); have RP := Lib.hid (hp.keep B.out)
    have HPL := Lib.hid hp.1
    have m9 := hp.2.1
    have HP := Lib.hid hP
    have HG := Lib.hid hg
    clear a0 a1 a2 l0 l1 ll al hP hg
    go_wp2
    go_loopw [16] (fun i wr => ∃ k : Nat, k ≤ m ∧ i = .int .i64 k ∧ (ps.take k).Nodup ∧ Below wv.heap.size wv wr) (fun i _ => m - (intOf i).toNat)
    case atStart => exact ⟨0, Nat.zero_le _, rfl, by simp, Below.refl _ _⟩
    case round =>
      obtain ⟨k, hk, rfl, hnd, hbw⟩ := hrel
      have HND := Lib.hid hnd
      clear hnd
      by_cases hlt : k < m
      · obtain ⟨bb, oo, x, rfl, hg1, hx, x0⟩ := RP.out.at_ hlt
        have HX := Lib.hid hx
        replace x0 := cell_keep x0 hg1 hbw
        have HB := Lib.hid hbw
        have RT := Lib.hid ((RP.out.keep hbw).take hk)
        have hkc : (k : Int) ≤ (c2 : Int) := by omega
        clear hx hbw
        cases hs : (ps.take k).contains x with
        | true =>
          have HS := Lib.hid hs
          clear hs
          go_wp2_with fail
          refine (l1Has_any _ _ _ _ _ _ RT.out).mono ?_
          rw [HS.out]
          rintro e wz ⟨rfl, hb⟩
          replace HB := Lib.hid (below_next HB.out hb)
          clear hb
          go_wp2
          go_ret
          exact ⟨ret_bool (by rw [walkB, HP.out, Bool.true_and]; symm; exact decide_eq_false (nodup_hit HX.out HS.out)), B.out.trans (HB.out.mono B.out.size)⟩
        | false =>
          have HS := Lib.hid hs
          clear hs
          go_wp2_with fail
          refine (l1Has_any _ _ _ _ _ _ RT.out).mono ?_
          rw [HS.out]
          rintro e wz ⟨rfl, hb⟩
          replace HB := Lib.hid (below_next HB.out hb)
          clear hb
          go_wp2
          go_roundw
          case rel => exact ⟨k + 1, by omega, by go_num, nodup_snoc HX.out HND.out HS.out, HB.out⟩
          case measure => simp [intOf]; omega
      · go_wp2
        go_ret
        exact ⟨ret_bool (by rw [walkB, HP.out, Bool.true_and]; symm; refine decide_eq_true ?_; have h := HND.out; rw [List.take_of_length_le (by have := HPL.out; omega)] at h; exact h), B.out.trans (hbw.mono B.out.size)⟩
  · have hP' : pathB W H xs a b ps = false := by simpa using hP
    go_enter Try.func95, Try.ntmps95
    go_wp2_with fail
    refine (boPath_any _ _ _ _ _ _ _ _ _ _ _ _ _ ((ha.alloc _).alloc _) ((hp.alloc _).alloc _) hg).mono ?_
    rw [hP']
    rintro e wv ⟨rfl, hb⟩
    have hbx0 := below_box hb
    have a0 : wv.cell? ⟨w.heap.size, 0, none⟩ = some (.int .i64 W) := by simpa using newbox hbx0 0
    have a1 : wv.cell? ⟨w.heap.size, 1, none⟩ = some (.int .i64 H) := by simpa using newbox hbx0 1
    have a2 : wv.cell? ⟨w.heap.size, 2, none⟩ = some (.slice A n c) := by simpa using newbox hbx0 2
    have al : w.heap.size < wv.heap.size := by simpa using newbox_lt hbx0
    have l0 : wv.cell? ⟨w.heap.size + 1, 0, none⟩ = some (.int .i64 a) := by simpa using newbox hb 0
    have l1 : wv.cell? ⟨w.heap.size + 1, 1, none⟩ = some (.int .i64 b) := by simpa using newbox hb 1
    have ll : w.heap.size + 1 < wv.heap.size := by simpa using newbox_lt hb
    have B := Lib.hid (below_box hbx0)
    clear hb hbx0
    go_wp2
    go_ret
    exact ⟨ret_bool (by rw [walkB, hP', Bool.false_and]), B.out⟩

set_option maxRecDepth 100000 in
set_option maxHeartbeats 2000000 in
theorem isWalk_any (W H : Int) (A : Option Addr) (n c : Nat) (xs : List Int) (a b : Int) (A2 : Option Addr) (m c2 : Nat) (ps : List Int) (w : World) (ha : Rd w A n xs) (hp : Rd w A2 m ps) (hg : goodB W H xs = true) :
    Calls Try.prog 55 #[brd W H A n c, lpr a b, .slice A2 m c2] w fun e w' => e = .returned (.bool (walkB W H xs a b ps)) ∧ Below w.heap.size w w' := by
  by_cases hP : pathB W H xs a b ps = true
  · go_enter Try.func55, Try.ntmps55
    go_wp2_with fail
    refine (isPath_any _ _ _ _ _ _ _ _ _ _ _ _ _ ((ha.alloc _).alloc _) ((hp.alloc _).alloc _) hg).mono ?_
    rw [hP]
    rintro e wv ⟨rfl, hb⟩
    have hbx0 := below_box hb
    have a0 : wv.cell? ⟨w.heap.size, 0, none⟩ = some (.int .i64 W) := by simpa using newbox hbx0 0
    have a1 : wv.cell? ⟨w.heap.size, 1, none⟩ = some (.int .i64 H) := by simpa using newbox hbx0 1
    have a2 : wv.cell? ⟨w.heap.size, 2, none⟩ = some (.slice A n c) := by simpa using newbox hbx0 2
    have al : w.heap.size < wv.heap.size := by simpa using newbox_lt hbx0
    have l0 : wv.cell? ⟨w.heap.size + 1, 0, none⟩ = some (.int .i64 a) := by simpa using newbox hb 0
    have l1 : wv.cell? ⟨w.heap.size + 1, 1, none⟩ = some (.int .i64 b) := by simpa using newbox hb 1
    have ll : w.heap.size + 1 < wv.heap.size := by simpa using newbox_lt hb
    have B := Lib.hid (below_box hbx0)
    clear hb hbx0
    have H64 := Lib.hid (path_64 hg hP)
    have HPL := Lib.hid hp.1
    have m9 := hp.2.1
    have HP := Lib.hid hP
    clear hP hg
    go_wp2_with fail
    refine (setOf_any A2 m c2 ps _ (hp.keep B.out) H64.out).mono ?_
    rintro e wv ⟨rfl, hb⟩
    replace B := Lib.hid (below_next B.out hb)
    clear hb a0 a1 a2 l0 l1 al ll
    have HSL := Lib.hid (set_lt H64.out)
    obtain ⟨S, hS⟩ : ∃ S, S = setBits (ps.map Int.toNat) := ⟨_, rfl⟩
    rw [← hS] at HSL ⊢
    have HS := Lib.hid hS
    clear hS
    go_wp2_with fail
    refine (size_any S HSL.out _).mono ?_
    rintro e wv ⟨rfl, hb⟩
    replace B := Lib.hid (below_next B.out hb)
    clear hb
    have hpw := pop_walk H64.out
    rw [← HS.out, HPL.out] at hpw
    obtain ⟨Q, hQ⟩ : ∃ Q, Q = popN 64 S := ⟨_, rfl⟩
    rw [← hQ] at hpw ⊢
    clear hQ
    by_cases hq : Q = m
    · have HN := Lib.hid (hpw.1 hq)
      have hqe : ((Q : Int) == (m : Int)) = true := by simp; omega
      clear hpw hq
      go_wp2
      go_ret
      exact ⟨ret_bool (by rw [walkB, HP.out, Bool.true_and]; symm; exact decide_eq_true HN.out), B.out⟩
    · have HN := Lib.hid (fun h => hq (hpw.2 h))
      have hqe : ((Q : Int) == (m : Int)) = false := by simp; omega
      clear hpw hq
      go_wp2
      go_ret
      exact ⟨ret_bool (by rw [walkB, HP.out, Bool.true_and]; symm; exact decide_eq_false HN.out), B.out⟩
  · have hP' : pathB W H xs a b ps = false := by simpa using hP
    go_enter Try.func55, Try.ntmps55
    go_wp2_with fail
    refine (isPath_any _ _ _ _ _ _ _ _ _ _ _ _ _ ((ha.alloc _).alloc _) ((hp.alloc _).alloc _) hg).mono ?_
    rw [hP']
    rintro e wv ⟨rfl, hb⟩
    have hbx0 := below_box hb
    have a0 : wv.cell? ⟨w.heap.size, 0, none⟩ = some (.int .i64 W) := by simpa using newbox hbx0 0
    have a1 : wv.cell? ⟨w.heap.size, 1, none⟩ = some (.int .i64 H) := by simpa using newbox hbx0 1
    have a2 : wv.cell? ⟨w.heap.size, 2, none⟩ = some (.slice A n c) := by simpa using newbox hbx0 2
    have al : w.heap.size < wv.heap.size := by simpa using newbox_lt hbx0
    have l0 : wv.cell? ⟨w.heap.size + 1, 0, none⟩ = some (.int .i64 a) := by simpa using newbox hb 0
    have l1 : wv.cell? ⟨w.heap.size + 1, 1, none⟩ = some (.int .i64 b) := by simpa using newbox hb 1
    have ll : w.heap.size + 1 < wv.heap.size := by simpa using newbox_lt hb
    have B := Lib.hid (below_box hbx0)
    clear hb hbx0
    go_wp2
    go_ret
    exact ⟨ret_bool (by rw [walkB, hP', Bool.false_and]), B.out⟩

end Go.Proofs.Ytadopgfpfbianaa
