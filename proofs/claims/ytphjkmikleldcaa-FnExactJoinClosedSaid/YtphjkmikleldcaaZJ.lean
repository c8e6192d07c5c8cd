/-
  Contracts: JoinClosed, both sides.
-/
import Derived.Test.YtphjkmikleldcaaZI
namespace Go.Proofs.Ytphjkmikleldcaa
open Go.RowKit

theorem trip_in {W a b : Int} {ps qs : List Int} {i j k : Nat} {t : Trip} (h : t ∈ tripTo W a b ps qs i j k) : t.1 = i ∧ t.2.1 = j := by
  unfold tripTo at h
  split at h
  · simp at h
  · split at h <;> simp at h
    subst h; exact ⟨rfl, rfl⟩
  · rcases List.mem_append.1 h with h | h <;> split at h <;> simp at h <;> (subst h; exact ⟨rfl, rfl⟩)
theorem joins_in {W a b : Int} {ps qs : List Int} {t : Trip} (h : t ∈ joinsL W a b ps qs) : t.1 < ps.length ∧ t.2.1 < qs.length := by
  rw [joinsL, allTo, List.mem_flatMap] at h
  obtain ⟨i, hi, h⟩ := h
  rw [rowTo, List.mem_flatMap] at h
  obtain ⟨j, hj, h⟩ := h
  obtain ⟨h1, h2⟩ := trip_in h
  rw [h1, h2]
  exact ⟨List.mem_range.1 hi, List.mem_range.1 hj⟩
theorem two_end {W H a b : Int} {xs ps qs : List Int} (h : okTwo2 W H xs a b ps qs = true) : 3 ≤ qs.length := by
  simp only [okTwo2, endB, Bool.and_eq_true, decide_eq_true_eq] at h
  exact h.1.2.1

set_option maxRecDepth 100000 in
set_option maxHeartbeats 4000000 in
theorem impl_JoinClosed (W H : Int) (A : Option Addr) (n c : Nat) (xs : List Int) (a b : Int) (A2 : Option Addr) (m c2 : Nat) (ps : List Int) (A3 : Option Addr) (k c3 : Nat) (qs : List Int) (w : World) (ha : Rd w A n xs) (hp : Rd w A2 m ps) (hcap : m ≤ c2) (hq : Rd w A3 k qs) (hcapq : k ≤ c3) :
    Calls Try.prog 34 #[brd W H A n c, lpr a b, .slice A2 m c2, .slice A3 k c3] w fun e w' => ∃ A' n' c', e = .returned (.tuple #[.slice A' n' c', .bool (okJoin W H xs a b ps qs)]) ∧ OwnI 3 w' w.heap.size A' n' c' (joinJ W H xs a b ps qs) ∧ Below w.heap.size w w' := by
  have HPL := Lib.hid hp.1; have HQL := Lib.hid hq.1
  obtain ⟨W2, hW2⟩ : ∃ W2, W2 = ((w.alloc (.cells #[.int .i64 W, .int .i64 H, .slice A n c] 30)).alloc (.cells #[.int .i64 a, .int .i64 b] 32)).alloc (.cells #[.slice A2 m c2, .slice A3 k c3] 22) := ⟨_, rfl⟩
  have a0 : W2.cell? ⟨w.heap.size, 0, none⟩ = some (.int .i64 W) := by rw [hW2]; go_simp
  have a1 : W2.cell? ⟨w.heap.size, 1, none⟩ = some (.int .i64 H) := by rw [hW2]; go_simp
  have a2 : W2.cell? ⟨w.heap.size, 2, none⟩ = some (.slice A n c) := by rw [hW2]; go_simp
  have l0 : W2.cell? ⟨w.heap.size + 1, 0, none⟩ = some (.int .i64 a) := by rw [hW2]; go_simp
  have l1 : W2.cell? ⟨w.heap.size + 1, 1, none⟩ = some (.int .i64 b) := by rw [hW2]; go_simp
  have hsz : W2.heap.size = w.heap.size + 3 := by rw [hW2]; simp
  have al : w.heap.size < W2.heap.size := by omega
  have ll : w.heap.size + 1 < W2.heap.size := by omega
  have B := Lib.hid (show Below w.heap.size w W2 by rw [hW2]; exact (((Below.refl _ _).alloc (Nat.le_refl _) _).alloc (by simp) _).alloc (by simp; omega) _)
  have R := Lib.hid (ha.keep B.out); have RP := Lib.hid (hp.keep B.out)
  have RQ := Lib.hid (hq.keep B.out)
  have WA := Lib.hid (show WalksAt W2 (w.heap.size + 1 + 1) [ps, qs] from ⟨by omega, fun i l hi => by
    rcases i with _ | _ | i
    · injection hi with hi; subst hi; exact ⟨A2, m, c2, by rw [hW2]; go_simp, hp.keep B.out⟩
    · injection hi with hi; subst hi; exact ⟨A3, k, c3, by rw [hW2]; go_simp, hq.keep B.out⟩
    · simp at hi⟩)
  clear ha hp hq hsz
  cases hok : okTwo2 W H xs a b ps qs with
  | true =>
    have HOK := Lib.hid hok
    clear hok
    go_enter Try.func34, Try.ntmps34
    go_wp2_with fail
    rw [← hW2]
    clear hW2
    refine (areClosed_any W H A n c xs a b _ ps qs _ R.out WA.out).mono ?_
    rw [HOK.out]
    rintro e wv ⟨rfl, hb⟩
    replace a0 := cell_keep a0 al hb; replace a1 := cell_keep a1 al hb; replace a2 := cell_keep a2 al hb; replace al := lt_keep al hb
    replace l0 := cell_keep l0 ll hb; replace l1 := cell_keep l1 ll hb; replace ll := lt_keep ll hb
    replace R := Lib.hid (R.out.keep hb); replace RP := Lib.hid (RP.out.keep hb)
    replace B := Lib.hid (below_next B.out hb)
    replace RQ := Lib.hid (RQ.out.keep hb)
    clear hb
    clear WA R
    have hml := ok_len (two_p HOK.out); have hkl := ok_len (two_q HOK.out)
    have hk3 := two_end HOK.out
    rw [HPL.out] at hml; rw [HQL.out] at hkl hk3
    go_wp2_with fail
    refine (joinsOf_any W H A n c a b A2 m c2 ps A3 k c3 qs _ RP.out RQ.out (ok_W (two_p HOK.out)) (ok_64 (two_p HOK.out)) (ok_64 (two_q HOK.out)) hml hkl).mono ?_
    rintro e wx ⟨A4, n4, c4, rfl, own, hb⟩
    have OJ := Lib.hid own
    replace RP := Lib.hid (RP.out.keep hb); replace RQ := Lib.hid (RQ.out.keep hb)
    replace B := Lib.hid (below_next B.out hb)
    clear own hb a0 a1 a2 l0 l1 al ll
    cases hjl : joinsL W a b ps qs with
    | nil =>
      have OK := Lib.hid (join_no (H := H) (xs := xs) hjl)
      have hn0 : n4 = 0 := by have := OJ.out.len; rw [hjl] at this; simpa using this.symm
      subst hn0
      clear hjl
      go_wp2
      go_ret2
      exact ⟨none, 0, 0, by rw [OK.out.1]; rfl, by rw [OK.out.2]; exact OwnI.none_ _ _ _, B.out⟩
    | cons t rest =>
      obtain ⟨i, j, back⟩ := t
      have OK := Lib.hid (join_yes (H := H) (xs := xs) HOK.out (show (joinsL W a b ps qs).head? = some (i, j, back) by rw [hjl]; rfl))
      have hin := joins_in (show ((i, j, back) : Trip) ∈ joinsL W a b ps qs by rw [hjl]; exact List.mem_cons_self)
      rw [HPL.out, HQL.out] at hin
      have hx0 : (joinsL W a b ps qs)[0]? = some (i, j, back) := by rw [hjl]; rfl
      have hn1 : 0 < n4 := by have := OJ.out.len; rw [hjl] at this; simp at this; omega
      obtain ⟨g, rfl, -, hgl⟩ := OJ.out.some_ hn1
      have z0 := OwnK.cell (j := 0) encJ_len OJ.out hx0 rfl
      have z1 := OwnK.cell (j := 1) encJ_len OJ.out hx0 rfl
      have z2 := OwnK.cell (j := 2) encJ_len OJ.out hx0 rfl
      simp only [Nat.zero_mul, Nat.zero_add] at z0 z1 z2
      have hne : ¬ (n4 : Int) = 0 := by omega
      have hne2 : ¬ n4 = 0 := by omega
      have hJ := fun w' (h1 : Rd w' A2 m ps) (h2 : Rd w' A3 k qs) => joined_any i j back A2 m c2 ps A3 k c3 qs w' h1 hcap h2 hcapq hin.1 hin.2 hml.2 ⟨by omega, hkl.2⟩
      have HJ := Lib.hid hJ
      clear hjl hx0 hJ hin hml hkl hk3 hgl
      cases back with
      | false =>
        go_wp2_with fail
        refine (HJ.out _ RP.out RQ.out).mono ?_
        rintro e wy ⟨A7, c7, rfl, own, hb⟩
        have O7 := Lib.hid (own.lower B.out.size)
        replace B := Lib.hid (below_next B.out hb)
        clear own hb z0 z1 z2
        go_wp2
        go_ret2
        exact ⟨_, _, _, by rw [OK.out.1]; rfl, by rw [OK.out.2]; exact O7.out, B.out⟩
      | true =>
        go_wp2_with fail
        refine (HJ.out _ RP.out RQ.out).mono ?_
        rintro e wy ⟨A7, c7, rfl, own, hb⟩
        have O7 := Lib.hid (own.lower B.out.size)
        replace B := Lib.hid (below_next B.out hb)
        clear own hb z0 z1 z2
        go_wp2
        go_ret2
        exact ⟨_, _, _, by rw [OK.out.1]; rfl, by rw [OK.out.2]; exact O7.out, B.out⟩
  | false =>
    have HOK := Lib.hid hok
    have OK := Lib.hid (join_bad hok)
    clear hok
    go_enter Try.func34, Try.ntmps34
    go_wp2_with fail
    rw [← hW2]
    clear hW2
    refine (areClosed_any W H A n c xs a b _ ps qs _ R.out WA.out).mono ?_
    rw [HOK.out]
    rintro e wv ⟨rfl, hb⟩
    replace a0 := cell_keep a0 al hb; replace a1 := cell_keep a1 al hb; replace a2 := cell_keep a2 al hb; replace al := lt_keep al hb
    replace l0 := cell_keep l0 ll hb; replace l1 := cell_keep l1 ll hb; replace ll := lt_keep ll hb
    replace R := Lib.hid (R.out.keep hb); replace RP := Lib.hid (RP.out.keep hb)
    replace B := Lib.hid (below_next B.out hb)
    replace RQ := Lib.hid (RQ.out.keep hb)
    clear hb
    clear a0 a1 a2 l0 l1 al ll R RP RQ WA
    go_wp2
    go_ret2
    exact ⟨none, 0, 0, by rw [OK.out.1]; rfl, by rw [OK.out.2]; exact OwnI.none_ _ _ _, B.out⟩

end Go.Proofs.Ytphjkmikleldcaa
