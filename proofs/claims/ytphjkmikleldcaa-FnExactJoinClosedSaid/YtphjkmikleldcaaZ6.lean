/-
  Contracts: ChainWalks.
-/
import Derived.Test.YtphjkmikleldcaaZ3
import Derived.Test.YtphjkmikleldcaaK8
import Derived.Test.YtphjkmikleldcaaK9a
import Derived.Deep.RegionHeld3
namespace Go.Proofs.Ytphjkmikleldcaa
open Go.RowKit

theorem walks_new2 {w : World} {A2 A3 : Option Addr} {m c2 k c3 : Nat} {ps qs : List Int} (h1 : Rd w A2 m ps) (h2 : Rd w A3 k qs) (T : TypeId) : WalksAt (w.alloc (.cells #[.slice A2 m c2, .slice A3 k c3] T)) w.heap.size [ps, qs] :=
  ⟨by simp, fun i l hi => by
    rcases i with _ | _ | i
    · injection hi with hi; subst hi; exact ⟨A2, m, c2, by simp, h1.alloc _⟩
    · injection hi with hi; subst hi; exact ⟨A3, k, c3, by simp, h2.alloc _⟩
    · simp at hi⟩
theorem nodup_64 {ps : List Int} (h : ∀ x ∈ ps, 0 ≤ x ∧ x < 64) (hn : ps.Nodup) : ps.length ≤ 64 := by
  rw [← (pop_walk h).2 hn]; exact popN_le 64 _
theorem getD_last (ps : List Int) (h : ps ≠ []) : ps.getD (ps.length - 1) 0 = ps.getLast h := by
  rw [List.getD_eq_getElem?_getD, ← List.getLast?_eq_getElem?, List.getLast?_eq_some_getLast h]; rfl
theorem walk_app {W H a b : Int} {xs ps qs : List Int} (hp : okWk W H xs a b ps = true) (hq : okWk W H xs a b qs = true) :
    walkB W H xs a b (ps ++ qs) = (apartB ps qs && leapB W a b (ps.getD (ps.length - 1) 0) (qs.getD 0 0)) := by
  have h1 := ok_walk hp
  have h2 := ok_walk hq
  have l1 := ok_len hp
  have l2 := ok_len hq
  simp only [walkB, pathB, Bool.and_eq_true, decide_eq_true_eq] at h1 h2
  have hne : ps ≠ [] := fun h => by rw [h] at l1; simp at l1
  have hg : goesB W H xs a b none (ps ++ qs) = leapB W a b (ps.getD (ps.length - 1) 0) (qs.getD 0 0) := by
    rw [goes_last ps qs none hne, h1.1.2, Bool.true_and, getD_last ps hne]
    cases qs with
    | nil => simp at l2
    | cons c t =>
      have h3 := h2.1.2
      simp only [goesB, Bool.and_true, Bool.and_eq_true] at h3
      simp only [goesB, h3.1, h3.2, Bool.true_and, Bool.and_true, List.getD_cons_zero]
  cases hap : apartB ps qs with
  | true =>
    have hnd : (ps ++ qs).Nodup := List.nodup_append.2 ⟨h1.2, h2.2, fun x hx y hy e => apart_iff.1 hap y hy (e ▸ hx)⟩
    have h64 := nodup_64 (fun x hx => by rcases List.mem_append.1 hx with h | h; exact ok_64 hp x h; exact ok_64 hq x h) hnd
    have hl : 1 ≤ (ps ++ qs).length ∧ (ps ++ qs).length ≤ 64 := ⟨by rw [List.length_append]; omega, h64⟩
    rw [walkB, pathB, hg, decide_eq_true hl, decide_eq_true hnd, Bool.and_true]
  | false =>
    have hnd : ¬ (ps ++ qs).Nodup := fun h => by
      have : apartB ps qs = true := apart_iff.2 fun x hx hxp => (List.nodup_append.1 h).2.2 x hxp x hx rfl
      rw [hap] at this; cases this
    rw [walkB, decide_eq_false hnd, Bool.and_false, Bool.false_and]
def okChain (W H : Int) (xs : List Int) (a b : Int) (ps qs : List Int) : Bool := okWk W H xs a b ps && okWk W H xs a b qs && (apartB ps qs && leapB W a b (ps.getD (ps.length - 1) 0) (qs.getD 0 0))
def chainV (W H : Int) (xs : List Int) (a b : Int) (ps qs : List Int) : List Int := if okChain W H xs a b ps qs then ps ++ qs else []
theorem len_ChainWalks (W H : Int) (xs : List Int) (a b : Int) (ps qs : List Int) : (chainV W H xs a b ps qs).length ≤ 1000000 := by
  unfold chainV; split
  · rename_i h; simp only [okChain, Bool.and_eq_true] at h; have := ok_len h.1.1; have := ok_len h.1.2; rw [List.length_append]; omega
  · simp
theorem wks_both (W H : Int) (xs : List Int) (a b : Int) (ps qs : List Int) : (twoV W H xs a b && wksB W H xs a b [ps, qs]) = (okWk W H xs a b ps && okWk W H xs a b qs && apartB ps qs) := by
  rw [wks_two, okWk, okWk]
  cases twoV W H xs a b <;> simp

set_option maxRecDepth 100000 in
set_option maxHeartbeats 4000000 in
theorem spec_ChainWalks (W H : Int) (A : Option Addr) (n c : Nat) (xs : List Int) (a b : Int) (A2 : Option Addr) (m c2 : Nat) (ps : List Int) (A3 : Option Addr) (k c3 : Nat) (qs : List Int) (w : World) (ha : Rd w A n xs) (hp : Rd w A2 m ps) (hcap : m ≤ c2) (hq : Rd w A3 k qs) (hcapq : k ≤ c3) :
    Calls Try.prog 39 #[brd W H A n c, lpr a b, .slice A2 m c2, .slice A3 k c3] w fun e w' => ∃ A' n' c', e = .returned (.tuple #[.slice A' n' c', .bool (okChain W H xs a b ps qs)]) ∧ OwnI 3 w' w.heap.size A' n' c' (chainV W H xs a b ps qs) ∧ Below w.heap.size w w' := by
  have HPL := Lib.hid hp.1
  have m9 := hp.2.1
  have HQL := Lib.hid hq.1
  have k9 := hq.2.1
  obtain ⟨W2, hW2⟩ : ∃ W2, W2 = (w.alloc (.cells #[.int .i64 W, .int .i64 H, .slice A n c] 30)).alloc (.cells #[.int .i64 a, .int .i64 b] 32) := ⟨_, rfl⟩
  have a0 : W2.cell? ⟨w.heap.size, 0, none⟩ = some (.int .i64 W) := by rw [hW2]; go_simp
  have a1 : W2.cell? ⟨w.heap.size, 1, none⟩ = some (.int .i64 H) := by rw [hW2]; go_simp
  have a2 : W2.cell? ⟨w.heap.size, 2, none⟩ = some (.slice A n c) := by rw [hW2]; go_simp
  have l0 : W2.cell? ⟨w.heap.size + 1, 0, none⟩ = some (.int .i64 a) := by rw [hW2]; go_simp
  have l1 : W2.cell? ⟨w.heap.size + 1, 1, none⟩ = some (.int .i64 b) := by rw [hW2]; go_simp
  have hsz : W2.heap.size = w.heap.size + 2 := by rw [hW2]; simp
  have al : w.heap.size < W2.heap.size := by omega
  have ll : w.heap.size + 1 < W2.heap.size := by omega
  have B := Lib.hid (show Below w.heap.size w W2 by rw [hW2]; exact ((Below.refl _ _).alloc (Nat.le_refl _) _).alloc (by simp) _)
  have R := Lib.hid (ha.keep B.out); have RP := Lib.hid (hp.keep B.out)
  have RQ := Lib.hid (hq.keep B.out)
  clear ha hp hq hsz
  cases hop : okWk W H xs a b ps with
  | true =>
    have HP := Lib.hid hop
    cases hoq : okWk W H xs a b qs with
    | true =>
      have HQ := Lib.hid hoq
      have hpl := ok_len hop; have hql := ok_len hoq
      rw [HPL.out] at hpl; rw [HQL.out] at hql
      have HWK := Lib.hid (walk_app hop hoq)
      have HG := Lib.hid (two_gK (ok_two hop))
      obtain ⟨bb, oo, x, rfl, -, -, -⟩ := RQ.out.at_ (k := 0) (by omega)
      obtain ⟨i0, hi, hz0, hz1, hz2⟩ := info_parts infoI
      have HI := Lib.hid hi; have HZ0 := Lib.hid hz0; have HZ1 := Lib.hid hz1; have HZ2 := Lib.hid hz2
      have HOK := Lib.hid (show okChain W H xs a b ps qs = walkB W H xs a b (ps ++ qs) by rw [okChain, hop, hoq, HWK.out]; rfl)
      clear hop hoq hi hz0 hz1 hz2
      go_enter Try.func39, Try.ntmps39
      go_wp2_with fail
      rw [← hW2]
      clear hW2
      refine (blWalk_any W H A n c xs a b A2 m c2 ps _ R.out RP.out hcap).mono ?_
      rw [HP.out]
      rintro e wv ⟨rfl, hb⟩
      replace a0 := cell_keep a0 al hb; replace a1 := cell_keep a1 al hb; replace a2 := cell_keep a2 al hb; replace al := lt_keep al hb
      replace l0 := cell_keep l0 ll hb; replace l1 := cell_keep l1 ll hb; replace ll := lt_keep ll hb
      replace R := Lib.hid (R.out.keep hb); replace RP := Lib.hid (RP.out.keep hb)
      replace B := Lib.hid (below_next B.out hb)
      replace RQ := Lib.hid (RQ.out.keep hb)
      clear hb
      go_wp2_with fail
      refine (blWalk_any W H A n c xs a b _ k c3 qs _ R.out RQ.out hcapq).mono ?_
      rw [HQ.out]
      rintro e wv ⟨rfl, hb⟩
      replace a0 := cell_keep a0 al hb; replace a1 := cell_keep a1 al hb; replace a2 := cell_keep a2 al hb; replace al := lt_keep al hb
      replace l0 := cell_keep l0 ll hb; replace l1 := cell_keep l1 ll hb; replace ll := lt_keep ll hb
      replace R := Lib.hid (R.out.keep hb); replace RP := Lib.hid (RP.out.keep hb)
      replace B := Lib.hid (below_next B.out hb)
      replace RQ := Lib.hid (RQ.out.keep hb)
      clear hb
      go_wp2_with fail
      refine (l1Own_all A2 m c2 ps _ RP.out (by omega)).mono ?_
      rintro e wx ⟨A5, c5, rfl, own, hbo⟩
      have RQ5 := Lib.hid (RQ.out.keep hbo)
      have O5 := Lib.hid own
      have hsw := hbo.size
      have HBO := Lib.hid hbo
      clear own hbo
      have hmk : m + k ≤ 1000000 := by omega
      go_wp2_with (at_builtin; refine wpList_appN rfl (.tmp 24) (.tmp 25) 22 3 rfl i0 Try.underlying22 HI.out HZ0.out HZ1.out HZ2.out wv.heap.size A5 m c5 ps ⟨bb, oo, none⟩ k c3 qs rfl O5.out rfl HQL.out (fun j y hj => RQ5.out.cell_ hj) hmk hsw ?_; intro A7 c7 w7 hown7 hb7; have O7 := Lib.hid hown7; have hb := HBO.out.trans hb7; replace a0 := cell_keep a0 al hb; replace a1 := cell_keep a1 al hb; replace a2 := cell_keep a2 al hb; replace al := lt_keep al hb; replace l0 := cell_keep l0 ll hb; replace l1 := cell_keep l1 ll hb; replace ll := lt_keep ll hb; replace R := Lib.hid (R.out.keep hb); have hlow := B.out.size; replace B := Lib.hid (below_next B.out hb); clear hown7 hb7 hb)
      refine (toWalk_any W H A n c xs a b A7 (m + k) c7 (ps ++ qs) _ R.out O7.out.rd O7.out.cap HG.out).mono ?_
      rw [← HOK.out]
      rintro e wz ⟨rfl, hb⟩
      replace O7 := Lib.hid (O7.out.keep hb)
      replace B := Lib.hid (below_next B.out hb)
      clear hb a0 a1 a2 l0 l1 al ll R RP RQ RQ5
      cases hok : okChain W H xs a b ps qs with
      | true =>
        have OK := Lib.hid hok
        clear hok
        go_wp2
        go_ret2
        exact ⟨_, _, _, by rw [OK.out]; rfl, by rw [chainV, if_pos OK.out]; exact O7.out.lower hlow, B.out⟩
      | false =>
        have OK := Lib.hid hok
        clear hok
        go_wp2
        go_ret2
        exact ⟨none, 0, 0, by rw [OK.out]; rfl, by rw [chainV, if_neg (by rw [OK.out]; simp)]; exact OwnI.none_ _ _ _, B.out⟩
    | false =>
      have HQ := Lib.hid hoq
      have OK := Lib.hid (show okChain W H xs a b ps qs = false by rw [okChain, hop, hoq]; rfl)
      clear hop hoq
      go_enter Try.func39, Try.ntmps39
      go_wp2_with fail
      rw [← hW2]
      clear hW2
      refine (blWalk_any W H A n c xs a b A2 m c2 ps _ R.out RP.out hcap).mono ?_
      rw [HP.out]
      rintro e wv ⟨rfl, hb⟩
      replace a0 := cell_keep a0 al hb; replace a1 := cell_keep a1 al hb; replace a2 := cell_keep a2 al hb; replace al := lt_keep al hb
      replace l0 := cell_keep l0 ll hb; replace l1 := cell_keep l1 ll hb; replace ll := lt_keep ll hb
      replace R := Lib.hid (R.out.keep hb); replace RP := Lib.hid (RP.out.keep hb)
      replace B := Lib.hid (below_next B.out hb)
      replace RQ := Lib.hid (RQ.out.keep hb)
      clear hb
      go_wp2_with fail
      refine (blWalk_any W H A n c xs a b _ k c3 qs _ R.out RQ.out hcapq).mono ?_
      rw [HQ.out]
      rintro e wv ⟨rfl, hb⟩
      replace a0 := cell_keep a0 al hb; replace a1 := cell_keep a1 al hb; replace a2 := cell_keep a2 al hb; replace al := lt_keep al hb
      replace l0 := cell_keep l0 ll hb; replace l1 := cell_keep l1 ll hb; replace ll := lt_keep ll hb
      replace R := Lib.hid (R.out.keep hb); replace RP := Lib.hid (RP.out.keep hb)
      replace B := Lib.hid (below_next B.out hb)
      replace RQ := Lib.hid (RQ.out.keep hb)
      clear hb
      clear a0 a1 a2 l0 l1 al ll R RP RQ
      go_wp2
      go_ret2
      exact ⟨none, 0, 0, by rw [OK.out]; rfl, by rw [chainV, if_neg (by rw [OK.out]; simp)]; exact OwnI.none_ _ _ _, B.out⟩
  | false =>
    have HP := Lib.hid hop
    have OK := Lib.hid (show okChain W H xs a b ps qs = false by rw [okChain, hop]; rfl)
    clear hop
    go_enter Try.func39, Try.ntmps39
    go_wp2_with fail
    rw [← hW2]
    clear hW2
    refine (blWalk_any W H A n c xs a b A2 m c2 ps _ R.out RP.out hcap).mono ?_
    rw [HP.out]
    rintro e wv ⟨rfl, hb⟩
    replace a0 := cell_keep a0 al hb; replace a1 := cell_keep a1 al hb; replace a2 := cell_keep a2 al hb; replace al := lt_keep al hb
    replace l0 := cell_keep l0 ll hb; replace l1 := cell_keep l1 ll hb; replace ll := lt_keep ll hb
    replace R := Lib.hid (R.out.keep hb); replace RP := Lib.hid (RP.out.keep hb)
    replace B := Lib.hid (below_next B.out hb)
    replace RQ := Lib.hid (RQ.out.keep hb)
    clear hb
    clear a0 a1 a2 l0 l1 al ll R RP RQ
    go_wp2
    go_ret2
    exact ⟨none, 0, 0, by rw [OK.out]; rfl, by rw [chainV, if_neg (by rw [OK.out]; simp)]; exact OwnI.none_ _ _ _, B.out⟩

set_option maxRecDepth 100000 in
set_option maxHeartbeats 4000000 in
theorem impl_ChainWalks (W H : Int) (A : Option Addr) (n c : Nat) (xs : List Int) (a b : Int) (A2 : Option Addr) (m c2 : Nat) (ps : List Int) (A3 : Option Addr) (k c3 : Nat) (qs : List Int) (w : World) (ha : Rd w A n xs) (hp : Rd w A2 m ps) (_ : m ≤ c2) (hq : Rd w A3 k qs) (_ : k ≤ c3) :
    Calls Try.prog 40 #[brd W H A n c, lpr a b, .slice A2 m c2, .slice A3 k c3] w fun e w' => ∃ A' n' c', e = .returned (.tuple #[.slice A' n' c', .bool (okChain W H xs a b ps qs)]) ∧ OwnI 3 w' w.heap.size A' n' c' (chainV W H xs a b ps qs) ∧ Below w.heap.size w w' := by
  have HPL := Lib.hid hp.1
  have m9 := hp.2.1
  have HQL := Lib.hid hq.1
  have k9 := hq.2.1
  obtain ⟨W2, hW2⟩ : ∃ W2, W2 = (w.alloc (.cells #[.int .i64 W, .int .i64 H, .slice A n c] 30)).alloc (.cells #[.int .i64 a, .int .i64 b] 32) := ⟨_, rfl⟩
  have a0 : W2.cell? ⟨w.heap.size, 0, none⟩ = some (.int .i64 W) := by rw [hW2]; go_simp
  have a1 : W2.cell? ⟨w.heap.size, 1, none⟩ = some (.int .i64 H) := by rw [hW2]; go_simp
  have a2 : W2.cell? ⟨w.heap.size, 2, none⟩ = some (.slice A n c) := by rw [hW2]; go_simp
  have l0 : W2.cell? ⟨w.heap.size + 1, 0, none⟩ = some (.int .i64 a) := by rw [hW2]; go_simp
  have l1 : W2.cell? ⟨w.heap.size + 1, 1, none⟩ = some (.int .i64 b) := by rw [hW2]; go_simp
  have hsz : W2.heap.size = w.heap.size + 2 := by rw [hW2]; simp
  have al : w.heap.size < W2.heap.size := by omega
  have ll : w.heap.size + 1 < W2.heap.size := by omega
  have B := Lib.hid (show Below w.heap.size w W2 by rw [hW2]; exact ((Below.refl _ _).alloc (Nat.le_refl _) _).alloc (by simp) _)
  have R := Lib.hid (ha.keep B.out); have RP := Lib.hid (hp.keep B.out)
  have RQ := Lib.hid (hq.keep B.out)
  clear ha hp hq hsz
  cases how : (okWk W H xs a b ps && okWk W H xs a b qs && apartB ps qs) with
  | true =>
    have HO := Lib.hid how
    simp only [Bool.and_eq_true] at how
    obtain ⟨⟨hop, hoq⟩, hap⟩ := how
    have hpl := ok_len hop; have hql := ok_len hoq
    rw [HPL.out] at hpl; rw [HQL.out] at hql
    have HW := Lib.hid (ok_W hop)
    have hwk := walk_app hop hoq
    have h64 : m + k ≤ 64 := by
      have hnd : (ps ++ qs).Nodup := List.nodup_append.2 ⟨(by have := ok_walk hop; simp only [walkB, Bool.and_eq_true, decide_eq_true_eq] at this; exact this.2), (by have := ok_walk hoq; simp only [walkB, Bool.and_eq_true, decide_eq_true_eq] at this; exact this.2), fun x hx y hy e => apart_iff.1 hap y hy (e ▸ hx)⟩
      have := nodup_64 (fun x hx => by rcases List.mem_append.1 hx with h | h; exact ok_64 hop x h; exact ok_64 hoq x h) hnd
      rw [List.length_append, HPL.out, HQL.out] at this; exact this
    obtain ⟨bb, oo, x, rfl, lz, hx, z0⟩ := RQ.out.at_ (k := 0) (by omega)
    obtain ⟨j, hj⟩ : ∃ j, m = j + 1 := ⟨m - 1, by omega⟩
    obtain ⟨b4, o4, y, rfl, ly, hy, z5⟩ := RP.out.at_ (k := j) (by omega)
    rw [Nat.add_zero] at z0
    have j0 : (0 : Int) ≤ (j : Int) := by omega
    have jm : (j : Int) < (m : Int) := by omega
    have k0 : (0 : Int) < (k : Int) := by omega
    have k1 : 0 < k := by omega
    have hw4 : IntKind.i64.wrap ((m : Int) - 1) = (j : Int) := by rw [show ((m : Int) - 1) = (j : Int) by omega]; exact IntWalk.i64_in _ (by omega)
    have HX := Lib.hid (show 0 ≤ x ∧ x ≤ 64 by have := ok_64 hoq x (List.mem_of_getElem? hx); omega)
    have HY := Lib.hid (show 0 ≤ y ∧ y ≤ 64 by have := ok_64 hop y (List.mem_of_getElem? hy); omega)
    have hlk : leapB W a b (ps.getD (ps.length - 1) 0) (qs.getD 0 0) = leapB W a b y x := by rw [show ps.length - 1 = j by rw [HPL.out]; omega, List.getD_eq_getElem?_getD, List.getD_eq_getElem?_getD, hx, hy]; rfl
    have HCH := Lib.hid (show okChain W H xs a b ps qs = leapB W a b y x by rw [okChain, hop, hoq, hap, hlk]; rfl)
    clear hop hoq hap hwk hx hy hlk hj
    cases hl : leapB W a b y x with
    | true =>
      have HLK := Lib.hid hl
      have OK := Lib.hid (show okChain W H xs a b ps qs = true by rw [HCH.out, hl])
      clear hl
      go_enter Try.func40, Try.ntmps40
      go_wp2_with fail
      rw [← hW2]
      clear hW2
      refine wp_region_held_drew (S := fun w' => w'.cell? ⟨w.heap.size, 0, none⟩ = some (.int .i64 W) ∧ w'.cell? ⟨w.heap.size, 1, none⟩ = some (.int .i64 H) ∧ w'.cell? ⟨w.heap.size, 2, none⟩ = some (.slice A n c) ∧ w'.cell? ⟨w.heap.size + 1, 0, none⟩ = some (.int .i64 a) ∧ w'.cell? ⟨w.heap.size + 1, 1, none⟩ = some (.int .i64 b) ∧ w'.cell? ⟨b4, o4 + j, none⟩ = some (.int .i64 y) ∧ w'.cell? ⟨bb, oo, none⟩ = some (.int .i64 x)) (by kernel_rfl) ?_ (fun hHeld => ?_)
      · (try dsimp only)
        exact ⟨(by first | exact a0 | go_simp), (by first | exact a1 | go_simp), (by first | exact a2 | go_simp), (by first | exact l0 | go_simp), (by first | exact l1 | go_simp), (by first | exact z5 | go_simp), (by first | exact z0 | go_simp)⟩
      refine wpAnyH_take (i := 0) (oi := ⟨_, _, _, _, _, _⟩) (v := ?_) rfl (by kernel_rfl) (by kernel_rfl) (by kernel_rfl) (fun _ _ _ h => h) (Or.inl ⟨by rfl, ?_⟩) (by assumption) ?_
      rotate_left
      · intro w hSw
        (try dsimp only at hSw)
        go_simp
        (try with_reducible rfl)
      (try simp only [Act.put, List.setIfInBounds_toArray, List.set_cons_zero, List.set_cons_succ])
      refine wpAnyH_take (i := 1) (oi := ⟨_, _, _, _, _, _⟩) (v := ?_) rfl (by kernel_rfl) (by kernel_rfl) (by kernel_rfl) (fun _ _ _ h => h) (Or.inl ⟨by rfl, ?_⟩) (by assumption) ?_
      rotate_left
      · intro w hSw
        (try dsimp only at hSw)
        go_simp
        (try with_reducible rfl)
      (try simp only [Act.put, List.setIfInBounds_toArray, List.set_cons_zero, List.set_cons_succ])
      refine wpAnyH_take (i := 2) (oi := ⟨_, _, _, _, _, _⟩) (v := ?_) rfl (by kernel_rfl) (by kernel_rfl) (by kernel_rfl) (fun _ _ _ h => h) (Or.inl ⟨by rfl, ?_⟩) (by assumption) ?_
      rotate_left
      · intro w hSw
        (try dsimp only at hSw)
        go_simp
        (try with_reducible rfl)
      (try simp only [Act.put, List.setIfInBounds_toArray, List.set_cons_zero, List.set_cons_succ])
      refine wpAnyH_take (i := 3) (oi := ⟨_, _, _, _, _, _⟩) (v := ?_) rfl (by kernel_rfl) (by kernel_rfl) (by kernel_rfl) (fun _ _ _ h => h) (Or.inl ⟨by rfl, ?_⟩) (by assumption) ?_
      rotate_left
      · intro w hSw
        (try dsimp only at hSw)
        go_simp
        (try with_reducible rfl)
      (try simp only [Act.put, List.setIfInBounds_toArray, List.set_cons_zero, List.set_cons_succ])
      refine wpAnyH_ready (rs := [4]) (by kernel_rfl) (by simp) ?_
      refine AllReadyH.cons (o := ⟨_, _, _, _, _, _⟩) rfl (fun K hK => ?_) AllReadyH.nil
      go_simp
      skip
      (try go_wp2_with fail)
      refine hK.out _ _ ?_ (fun hHeld => ?_)
      · (try dsimp only)
        exact ⟨(by first | exact a0 | go_simp), (by first | exact a1 | go_simp), (by first | exact a2 | go_simp), (by first | exact l0 | go_simp), (by first | exact l1 | go_simp), (by first | exact z5 | go_simp), (by first | exact z0 | go_simp)⟩
      clear hK K
      (try simp only [Act.put, List.setIfInBounds_toArray, List.set_cons_zero, List.set_cons_succ])
      refine wpAnyH_ready (rs := [5]) (by kernel_rfl) (by simp) ?_
      refine AllReadyH.cons (o := ⟨_, _, _, _, _, _⟩) rfl (fun K hK => ?_) AllReadyH.nil
      go_simp
      (go_at_call 54; refine (areWalks_any W H A n c xs a b _ 2 [ps, qs] _ ?_ ?_ rfl (by decide)).mono ?_; (exact (Rd.alloc (by exact R.out) _)); (exact walks_new2 (by exact RP.out) (by exact RQ.out) _); rw [wks_both, HO.out]; rintro e wx ⟨rfl, hb⟩; (repeat (first | replace hb := below_undrew hb | replace hb := below_undrewN hb)); replace hb := below_box hb; (repeat (first | replace hb := below_undrew hb | replace hb := below_undrewN hb)); replace a0 := cell_keep a0 al hb; replace a1 := cell_keep a1 al hb; replace a2 := cell_keep a2 al hb; replace al := lt_keep al hb; replace l0 := cell_keep l0 ll hb; replace l1 := cell_keep l1 ll hb; replace ll := lt_keep ll hb; replace R := Lib.hid (R.out.keep hb); replace RP := Lib.hid (RP.out.keep hb); replace RQ := Lib.hid (RQ.out.keep hb); replace z0 := cell_keep z0 lz hb; replace lz := lt_keep lz hb; replace z5 := cell_keep z5 ly hb; replace ly := lt_keep ly hb; replace B := Lib.hid (below_next B.out hb); clear hb)
      (try go_wp2_with fail)
      refine hK.out _ _ ?_ (fun hHeld => ?_)
      · (try dsimp only)
        exact ⟨(by first | exact a0 | go_simp), (by first | exact a1 | go_simp), (by first | exact a2 | go_simp), (by first | exact l0 | go_simp), (by first | exact l1 | go_simp), (by first | exact z5 | go_simp), (by first | exact z0 | go_simp)⟩
      clear hK K
      (try simp only [Act.put, List.setIfInBounds_toArray, List.set_cons_zero, List.set_cons_succ])
      refine wpAnyH_take (i := 6) (oi := ⟨_, _, _, _, _, _⟩) (v := ?_) rfl (by kernel_rfl) (by kernel_rfl) (by kernel_rfl) (fun _ _ _ h => h) (Or.inl ⟨by rfl, ?_⟩) (by assumption) ?_
      rotate_left
      · intro w hSw
        (try dsimp only at hSw)
        go_simp
        (try with_reducible rfl)
      (try simp only [Act.put, List.setIfInBounds_toArray, List.set_cons_zero, List.set_cons_succ])
      refine wpAnyH_take (i := 7) (oi := ⟨_, _, _, _, _, _⟩) (v := ?_) rfl (by kernel_rfl) (by kernel_rfl) (by kernel_rfl) (fun _ _ _ h => h) (Or.inl ⟨by rfl, ?_⟩) (by assumption) ?_
      rotate_left
      · intro w hSw
        (try dsimp only at hSw)
        go_simp
        (try with_reducible rfl)
      (try simp only [Act.put, List.setIfInBounds_toArray, List.set_cons_zero, List.set_cons_succ])
      refine wpAnyH_take (i := 8) (oi := ⟨_, _, _, _, _, _⟩) (v := ?_) rfl (by kernel_rfl) (by kernel_rfl) (by kernel_rfl) (fun _ _ _ h => h) (Or.inl ⟨by rfl, ?_⟩) (by assumption) ?_
      rotate_left
      · intro w hSw
        (try dsimp only at hSw)
        go_simp
        (try with_reducible rfl)
      (try simp only [Act.put, List.setIfInBounds_toArray, List.set_cons_zero, List.set_cons_succ])
      refine wpAnyH_take (i := 9) (oi := ⟨_, _, _, _, _, _⟩) (v := ?_) rfl (by kernel_rfl) (by kernel_rfl) (by kernel_rfl) (fun _ _ _ h => h) (Or.inl ⟨by rfl, ?_⟩) (by assumption) ?_
      rotate_left
      · intro w hSw
        (try dsimp only at hSw)
        go_simp
        (try with_reducible rfl)
      (try simp only [Act.put, List.setIfInBounds_toArray, List.set_cons_zero, List.set_cons_succ])
      refine wpAnyH_take (i := 10) (oi := ⟨_, _, _, _, _, _⟩) (v := ?_) rfl (by kernel_rfl) (by kernel_rfl) (by kernel_rfl) (fun _ _ _ h => h) (Or.inl ⟨by rfl, ?_⟩) (by assumption) ?_
      rotate_left
      · intro w hSw
        (try dsimp only at hSw)
        go_simp
        (try with_reducible rfl)
      (try simp only [Act.put, List.setIfInBounds_toArray, List.set_cons_zero, List.set_cons_succ])
      refine wpAnyH_take (i := 11) (oi := ⟨_, _, _, _, _, _⟩) (v := ?_) rfl (by kernel_rfl) (by kernel_rfl) (by kernel_rfl) (fun _ _ _ h => h) (Or.inl ⟨by rfl, ?_⟩) (by assumption) ?_
      rotate_left
      · intro w hSw
        (try dsimp only at hSw)
        go_simp
        (try with_reducible rfl)
      (try simp only [Act.put, List.setIfInBounds_toArray, List.set_cons_zero, List.set_cons_succ])
      refine wpAnyH_take (i := 12) (oi := ⟨_, _, _, _, _, _⟩) (v := ?_) rfl (by kernel_rfl) (by kernel_rfl) (by kernel_rfl) (fun _ _ _ h => h) (Or.inl ⟨by rfl, ?_⟩) (by assumption) ?_
      rotate_left
      · intro w hSw
        (try dsimp only at hSw)
        go_simp
        (try with_reducible rfl)
      (try simp only [Act.put, List.setIfInBounds_toArray, List.set_cons_zero, List.set_cons_succ])
      refine wpAnyH_take (i := 13) (oi := ⟨_, _, _, _, _, _⟩) (v := ?_) rfl (by kernel_rfl) (by kernel_rfl) (by kernel_rfl) (fun _ _ _ h => h) (Or.inl ⟨by rfl, ?_⟩) (by assumption) ?_
      rotate_left
      · intro w hSw
        (try dsimp only at hSw)
        go_simp
        (try with_reducible rfl)
      (try simp only [Act.put, List.setIfInBounds_toArray, List.set_cons_zero, List.set_cons_succ])
      refine wpAnyH_take (i := 14) (oi := ⟨_, _, _, _, _, _⟩) (v := ?_) rfl (by kernel_rfl) (by kernel_rfl) (by kernel_rfl) (fun _ _ _ h => h) (Or.inl ⟨by rfl, ?_⟩) (by assumption) ?_
      rotate_left
      · intro w hSw
        (try dsimp only at hSw)
        go_simp
        (try with_reducible rfl)
      (try simp only [Act.put, List.setIfInBounds_toArray, List.set_cons_zero, List.set_cons_succ])
      refine wpAnyH_take (i := 15) (oi := ⟨_, _, _, _, _, _⟩) (v := ?_) rfl (by kernel_rfl) (by kernel_rfl) (by kernel_rfl) (fun _ _ _ h => h) (Or.inl ⟨by rfl, ?_⟩) (by assumption) ?_
      rotate_left
      · intro w hSw
        (try dsimp only at hSw)
        go_simp
        (try with_reducible rfl)
      (try simp only [Act.put, List.setIfInBounds_toArray, List.set_cons_zero, List.set_cons_succ])
      refine wpAnyH_take (i := 16) (oi := ⟨_, _, _, _, _, _⟩) (v := ?_) rfl (by kernel_rfl) (by kernel_rfl) (by kernel_rfl) (fun _ _ _ h => h) (Or.inl ⟨by rfl, ?_⟩) (by assumption) ?_
      rotate_left
      · intro w hSw
        (try dsimp only at hSw)
        go_simp
        (try with_reducible rfl)
      (try simp only [Act.put, List.setIfInBounds_toArray, List.set_cons_zero, List.set_cons_succ])
      refine wpAnyH_take (i := 17) (oi := ⟨_, _, _, _, _, _⟩) (v := ?_) rfl (by kernel_rfl) (by kernel_rfl) (by kernel_rfl) (fun _ _ _ h => h) (Or.inl ⟨by rfl, ?_⟩) (by assumption) ?_
      rotate_left
      · intro w hSw
        (try dsimp only at hSw)
        go_simp
        (try with_reducible rfl)
      (try simp only [Act.put, List.setIfInBounds_toArray, List.set_cons_zero, List.set_cons_succ])
      refine wpAnyH_take (i := 18) (oi := ⟨_, _, _, _, _, _⟩) (v := ?_) rfl (by kernel_rfl) (by kernel_rfl) (by kernel_rfl) (fun _ _ _ h => h) (Or.inl ⟨by rfl, ?_⟩) (by assumption) ?_
      rotate_left
      · intro w hSw
        (try dsimp only at hSw)
        go_simp
        (try with_reducible rfl)
      (try simp only [Act.put, List.setIfInBounds_toArray, List.set_cons_zero, List.set_cons_succ])
      refine wpAnyH_ready (rs := [19]) (by kernel_rfl) (by simp) ?_
      refine AllReadyH.cons (o := ⟨_, _, _, _, _, _⟩) rfl (fun K hK => ?_) AllReadyH.nil
      go_simp
      (go_at_call 73; refine (doesLeap_any W H A n c a b y x _ ?_ ?_ ?_).mono ?_; (exact HW.out); (exact HY.out); (exact HX.out); rw [HLK.out]; rintro e wx ⟨rfl, hb⟩; (repeat (first | replace hb := below_undrew hb | replace hb := below_undrewN hb)); replace a0 := cell_keep a0 al hb; replace a1 := cell_keep a1 al hb; replace a2 := cell_keep a2 al hb; replace al := lt_keep al hb; replace l0 := cell_keep l0 ll hb; replace l1 := cell_keep l1 ll hb; replace ll := lt_keep ll hb; replace R := Lib.hid (R.out.keep hb); replace RP := Lib.hid (RP.out.keep hb); replace RQ := Lib.hid (RQ.out.keep hb); replace z0 := cell_keep z0 lz hb; replace lz := lt_keep lz hb; replace z5 := cell_keep z5 ly hb; replace ly := lt_keep ly hb; replace B := Lib.hid (below_next B.out hb); clear hb)
      (try go_wp2_with fail)
      refine hK.out _ _ ?_ (fun hHeld => ?_)
      · (try dsimp only)
        exact ⟨(by first | exact a0 | go_simp), (by first | exact a1 | go_simp), (by first | exact a2 | go_simp), (by first | exact l0 | go_simp), (by first | exact l1 | go_simp), (by first | exact z5 | go_simp), (by first | exact z0 | go_simp)⟩
      clear hK K
      (try simp only [Act.put, List.setIfInBounds_toArray, List.set_cons_zero, List.set_cons_succ])
      refine wpAnyH_take (i := 20) (oi := ⟨_, _, _, _, _, _⟩) (v := ?_) rfl (by kernel_rfl) (by kernel_rfl) (by kernel_rfl) (fun _ _ _ h => h) (Or.inl ⟨by rfl, ?_⟩) (by assumption) ?_
      rotate_left
      · intro w hSw
        (try dsimp only at hSw)
        go_simp
        (try with_reducible rfl)
      (try simp only [Act.put, List.setIfInBounds_toArray, List.set_cons_zero, List.set_cons_succ])
      refine wpAnyH_take (i := 21) (oi := ⟨_, _, _, _, _, _⟩) (v := ?_) rfl (by kernel_rfl) (by kernel_rfl) (by kernel_rfl) (fun _ _ _ h => h) (Or.inl ⟨by rfl, ?_⟩) (by assumption) ?_
      rotate_left
      · intro w hSw
        (try dsimp only at hSw)
        go_simp
        (try with_reducible rfl)
      (try simp only [Act.put, List.setIfInBounds_toArray, List.set_cons_zero, List.set_cons_succ])
      refine wpAnyH_done (by kernel_rfl) ?_ _
      go_wp2_with fail
      refine (concat2_any _ ⟨b4, o4, none⟩ ⟨bb, oo, none⟩ m c2 k c3 ps qs _ (by simp) (by simp) (by simp) (by exact (RP.out.alloc _)) (by exact (RQ.out.alloc _)) (by omega) h64).mono ?_
      rintro e wz ⟨A9, c9, rfl, own, hb⟩
      replace hb := below_box hb
      have O9 := Lib.hid (own.lower (show w.heap.size ≤ _ by have := B.out.size; simp; omega))
      replace B := Lib.hid (below_next B.out hb)
      clear own hb a0 a1 a2 l0 l1 al ll R RP RQ z0 z5
      go_wp2
      go_ret2
      exact ⟨_, _, _, by rw [OK.out]; rfl, by rw [chainV, if_pos OK.out]; exact O9.out, B.out⟩
    | false =>
      have HLK := Lib.hid hl
      have OK := Lib.hid (show okChain W H xs a b ps qs = false by rw [HCH.out, hl])
      clear hl
      go_enter Try.func40, Try.ntmps40
      go_wp2_with fail
      rw [← hW2]
      clear hW2
      refine wp_region_held_drew (S := fun w' => w'.cell? ⟨w.heap.size, 0, none⟩ = some (.int .i64 W) ∧ w'.cell? ⟨w.heap.size, 1, none⟩ = some (.int .i64 H) ∧ w'.cell? ⟨w.heap.size, 2, none⟩ = some (.slice A n c) ∧ w'.cell? ⟨w.heap.size + 1, 0, none⟩ = some (.int .i64 a) ∧ w'.cell? ⟨w.heap.size + 1, 1, none⟩ = some (.int .i64 b) ∧ w'.cell? ⟨b4, o4 + j, none⟩ = some (.int .i64 y) ∧ w'.cell? ⟨bb, oo, none⟩ = some (.int .i64 x)) (by kernel_rfl) ?_ (fun hHeld => ?_)
      · (try dsimp only)
        exact ⟨(by first | exact a0 | go_simp), (by first | exact a1 | go_simp), (by first | exact a2 | go_simp), (by first | exact l0 | go_simp), (by first | exact l1 | go_simp), (by first | exact z5 | go_simp), (by first | exact z0 | go_simp)⟩
      refine wpAnyH_take (i := 0) (oi := ⟨_, _, _, _, _, _⟩) (v := ?_) rfl (by kernel_rfl) (by kernel_rfl) (by kernel_rfl) (fun _ _ _ h => h) (Or.inl ⟨by rfl, ?_⟩) (by assumption) ?_
      rotate_left
      · intro w hSw
        (try dsimp only at hSw)
        go_simp
        (try with_reducible rfl)
      (try simp only [Act.put, List.setIfInBounds_toArray, List.set_cons_zero, List.set_cons_succ])
      refine wpAnyH_take (i := 1) (oi := ⟨_, _, _, _, _, _⟩) (v := ?_) rfl (by kernel_rfl) (by kernel_rfl) (by kernel_rfl) (fun _ _ _ h => h) (Or.inl ⟨by rfl, ?_⟩) (by assumption) ?_
      rotate_left
      · intro w hSw
        (try dsimp only at hSw)
        go_simp
        (try with_reducible rfl)
      (try simp only [Act.put, List.setIfInBounds_toArray, List.set_cons_zero, List.set_cons_succ])
      refine wpAnyH_take (i := 2) (oi := ⟨_, _, _, _, _, _⟩) (v := ?_) rfl (by kernel_rfl) (by kernel_rfl) (by kernel_rfl) (fun _ _ _ h => h) (Or.inl ⟨by rfl, ?_⟩) (by assumption) ?_
      rotate_left
      · intro w hSw
        (try dsimp only at hSw)
        go_simp
        (try with_reducible rfl)
      (try simp only [Act.put, List.setIfInBounds_toArray, List.set_cons_zero, List.set_cons_succ])
      refine wpAnyH_take (i := 3) (oi := ⟨_, _, _, _, _, _⟩) (v := ?_) rfl (by kernel_rfl) (by kernel_rfl) (by kernel_rfl) (fun _ _ _ h => h) (Or.inl ⟨by rfl, ?_⟩) (by assumption) ?_
      rotate_left
      · intro w hSw
        (try dsimp only at hSw)
        go_simp
        (try with_reducible rfl)
      (try simp only [Act.put, List.setIfInBounds_toArray, List.set_cons_zero, List.set_cons_succ])
      refine wpAnyH_ready (rs := [4]) (by kernel_rfl) (by simp) ?_
      refine AllReadyH.cons (o := ⟨_, _, _, _, _, _⟩) rfl (fun K hK => ?_) AllReadyH.nil
      go_simp
      skip
      (try go_wp2_with fail)
      refine hK.out _ _ ?_ (fun hHeld => ?_)
      · (try dsimp only)
        exact ⟨(by first | exact a0 | go_simp), (by first | exact a1 | go_simp), (by first | exact a2 | go_simp), (by first | exact l0 | go_simp), (by first | exact l1 | go_simp), (by first | exact z5 | go_simp), (by first | exact z0 | go_simp)⟩
      clear hK K
      (try simp only [Act.put, List.setIfInBounds_toArray, List.set_cons_zero, List.set_cons_succ])
      refine wpAnyH_ready (rs := [5]) (by kernel_rfl) (by simp) ?_
      refine AllReadyH.cons (o := ⟨_, _, _, _, _, _⟩) rfl (fun K hK => ?_) AllReadyH.nil
      go_simp
      (go_at_call 54; refine (areWalks_any W H A n c xs a b _ 2 [ps, qs] _ ?_ ?_ rfl (by decide)).mono ?_; (exact (Rd.alloc (by exact R.out) _)); (exact walks_new2 (by exact RP.out) (by exact RQ.out) _); rw [wks_both, HO.out]; rintro e wx ⟨rfl, hb⟩; (repeat (first | replace hb := below_undrew hb | replace hb := below_undrewN hb)); replace hb := below_box hb; (repeat (first | replace hb := below_undrew hb | replace hb := below_undrewN hb)); replace a0 := cell_keep a0 al hb; replace a1 := cell_keep a1 al hb; replace a2 := cell_keep a2 al hb; replace al := lt_keep al hb; replace l0 := cell_keep l0 ll hb; replace l1 := cell_keep l1 ll hb; replace ll := lt_keep ll hb; replace R := Lib.hid (R.out.keep hb); replace RP := Lib.hid (RP.out.keep hb); replace RQ := Lib.hid (RQ.out.keep hb); replace z0 := cell_keep z0 lz hb; replace lz := lt_keep lz hb; replace z5 := cell_keep z5 ly hb; replace ly := lt_keep ly hb; replace B := Lib.hid (below_next B.out hb); clear hb)
      (try go_wp2_with fail)
      refine hK.out _ _ ?_ (fun hHeld => ?_)
      · (try dsimp only)
        exact ⟨(by first | exact a0 | go_simp), (by first | exact a1 | go_simp), (by first | exact a2 | go_simp), (by first | exact l0 | go_simp), (by first | exact l1 | go_simp), (by first | exact z5 | go_simp), (by first | exact z0 | go_simp)⟩
      clear hK K
      (try simp only [Act.put, List.setIfInBounds_toArray, List.set_cons_zero, List.set_cons_succ])
      refine wpAnyH_take (i := 6) (oi := ⟨_, _, _, _, _, _⟩) (v := ?_) rfl (by kernel_rfl) (by kernel_rfl) (by kernel_rfl) (fun _ _ _ h => h) (Or.inl ⟨by rfl, ?_⟩) (by assumption) ?_
      rotate_left
      · intro w hSw
        (try dsimp only at hSw)
        go_simp
        (try with_reducible rfl)
      (try simp only [Act.put, List.setIfInBounds_toArray, List.set_cons_zero, List.set_cons_succ])
      refine wpAnyH_take (i := 7) (oi := ⟨_, _, _, _, _, _⟩) (v := ?_) rfl (by kernel_rfl) (by kernel_rfl) (by kernel_rfl) (fun _ _ _ h => h) (Or.inl ⟨by rfl, ?_⟩) (by assumption) ?_
      rotate_left
      · intro w hSw
        (try dsimp only at hSw)
        go_simp
        (try with_reducible rfl)
      (try simp only [Act.put, List.setIfInBounds_toArray, List.set_cons_zero, List.set_cons_succ])
      refine wpAnyH_take (i := 8) (oi := ⟨_, _, _, _, _, _⟩) (v := ?_) rfl (by kernel_rfl) (by kernel_rfl) (by kernel_rfl) (fun _ _ _ h => h) (Or.inl ⟨by rfl, ?_⟩) (by assumption) ?_
      rotate_left
      · intro w hSw
        (try dsimp only at hSw)
        go_simp
        (try with_reducible rfl)
      (try simp only [Act.put, List.setIfInBounds_toArray, List.set_cons_zero, List.set_cons_succ])
      refine wpAnyH_take (i := 9) (oi := ⟨_, _, _, _, _, _⟩) (v := ?_) rfl (by kernel_rfl) (by kernel_rfl) (by kernel_rfl) (fun _ _ _ h => h) (Or.inl ⟨by rfl, ?_⟩) (by assumption) ?_
      rotate_left
      · intro w hSw
        (try dsimp only at hSw)
        go_simp
        (try with_reducible rfl)
      (try simp only [Act.put, List.setIfInBounds_toArray, List.set_cons_zero, List.set_cons_succ])
      refine wpAnyH_take (i := 10) (oi := ⟨_, _, _, _, _, _⟩) (v := ?_) rfl (by kernel_rfl) (by kernel_rfl) (by kernel_rfl) (fun _ _ _ h => h) (Or.inl ⟨by rfl, ?_⟩) (by assumption) ?_
      rotate_left
      · intro w hSw
        (try dsimp only at hSw)
        go_simp
        (try with_reducible rfl)
      (try simp only [Act.put, List.setIfInBounds_toArray, List.set_cons_zero, List.set_cons_succ])
      refine wpAnyH_take (i := 11) (oi := ⟨_, _, _, _, _, _⟩) (v := ?_) rfl (by kernel_rfl) (by kernel_rfl) (by kernel_rfl) (fun _ _ _ h => h) (Or.inl ⟨by rfl, ?_⟩) (by assumption) ?_
      rotate_left
      · intro w hSw
        (try dsimp only at hSw)
        go_simp
        (try with_reducible rfl)
      (try simp only [Act.put, List.setIfInBounds_toArray, List.set_cons_zero, List.set_cons_succ])
      refine wpAnyH_take (i := 12) (oi := ⟨_, _, _, _, _, _⟩) (v := ?_) rfl (by kernel_rfl) (by kernel_rfl) (by kernel_rfl) (fun _ _ _ h => h) (Or.inl ⟨by rfl, ?_⟩) (by assumption) ?_
      rotate_left
      · intro w hSw
        (try dsimp only at hSw)
        go_simp
        (try with_reducible rfl)
      (try simp only [Act.put, List.setIfInBounds_toArray, List.set_cons_zero, List.set_cons_succ])
      refine wpAnyH_take (i := 13) (oi := ⟨_, _, _, _, _, _⟩) (v := ?_) rfl (by kernel_rfl) (by kernel_rfl) (by kernel_rfl) (fun _ _ _ h => h) (Or.inl ⟨by rfl, ?_⟩) (by assumption) ?_
      rotate_left
      · intro w hSw
        (try dsimp only at hSw)
        go_simp
        (try with_reducible rfl)
      (try simp only [Act.put, List.setIfInBounds_toArray, List.set_cons_zero, List.set_cons_succ])
      refine wpAnyH_take (i := 14) (oi := ⟨_, _, _, _, _, _⟩) (v := ?_) rfl (by kernel_rfl) (by kernel_rfl) (by kernel_rfl) (fun _ _ _ h => h) (Or.inl ⟨by rfl, ?_⟩) (by assumption) ?_
      rotate_left
      · intro w hSw
        (try dsimp only at hSw)
        go_simp
        (try with_reducible rfl)
      (try simp only [Act.put, List.setIfInBounds_toArray, List.set_cons_zero, List.set_cons_succ])
      refine wpAnyH_take (i := 15) (oi := ⟨_, _, _, _, _, _⟩) (v := ?_) rfl (by kernel_rfl) (by kernel_rfl) (by kernel_rfl) (fun _ _ _ h => h) (Or.inl ⟨by rfl, ?_⟩) (by assumption) ?_
      rotate_left
      · intro w hSw
        (try dsimp only at hSw)
        go_simp
        (try with_reducible rfl)
      (try simp only [Act.put, List.setIfInBounds_toArray, List.set_cons_zero, List.set_cons_succ])
      refine wpAnyH_take (i := 16) (oi := ⟨_, _, _, _, _, _⟩) (v := ?_) rfl (by kernel_rfl) (by kernel_rfl) (by kernel_rfl) (fun _ _ _ h => h) (Or.inl ⟨by rfl, ?_⟩) (by assumption) ?_
      rotate_left
      · intro w hSw
        (try dsimp only at hSw)
        go_simp
        (try with_reducible rfl)
      (try simp only [Act.put, List.setIfInBounds_toArray, List.set_cons_zero, List.set_cons_succ])
      refine wpAnyH_take (i := 17) (oi := ⟨_, _, _, _, _, _⟩) (v := ?_) rfl (by kernel_rfl) (by kernel_rfl) (by kernel_rfl) (fun _ _ _ h => h) (Or.inl ⟨by rfl, ?_⟩) (by assumption) ?_
      rotate_left
      · intro w hSw
        (try dsimp only at hSw)
        go_simp
        (try with_reducible rfl)
      (try simp only [Act.put, List.setIfInBounds_toArray, List.set_cons_zero, List.set_cons_succ])
      refine wpAnyH_take (i := 18) (oi := ⟨_, _, _, _, _, _⟩) (v := ?_) rfl (by kernel_rfl) (by kernel_rfl) (by kernel_rfl) (fun _ _ _ h => h) (Or.inl ⟨by rfl, ?_⟩) (by assumption) ?_
      rotate_left
      · intro w hSw
        (try dsimp only at hSw)
        go_simp
        (try with_reducible rfl)
      (try simp only [Act.put, List.setIfInBounds_toArray, List.set_cons_zero, List.set_cons_succ])
      refine wpAnyH_ready (rs := [19]) (by kernel_rfl) (by simp) ?_
      refine AllReadyH.cons (o := ⟨_, _, _, _, _, _⟩) rfl (fun K hK => ?_) AllReadyH.nil
      go_simp
      (go_at_call 73; refine (doesLeap_any W H A n c a b y x _ ?_ ?_ ?_).mono ?_; (exact HW.out); (exact HY.out); (exact HX.out); rw [HLK.out]; rintro e wx ⟨rfl, hb⟩; (repeat (first | replace hb := below_undrew hb | replace hb := below_undrewN hb)); replace a0 := cell_keep a0 al hb; replace a1 := cell_keep a1 al hb; replace a2 := cell_keep a2 al hb; replace al := lt_keep al hb; replace l0 := cell_keep l0 ll hb; replace l1 := cell_keep l1 ll hb; replace ll := lt_keep ll hb; replace R := Lib.hid (R.out.keep hb); replace RP := Lib.hid (RP.out.keep hb); replace RQ := Lib.hid (RQ.out.keep hb); replace z0 := cell_keep z0 lz hb; replace lz := lt_keep lz hb; replace z5 := cell_keep z5 ly hb; replace ly := lt_keep ly hb; replace B := Lib.hid (below_next B.out hb); clear hb)
      (try go_wp2_with fail)
      refine hK.out _ _ ?_ (fun hHeld => ?_)
      · (try dsimp only)
        exact ⟨(by first | exact a0 | go_simp), (by first | exact a1 | go_simp), (by first | exact a2 | go_simp), (by first | exact l0 | go_simp), (by first | exact l1 | go_simp), (by first | exact z5 | go_simp), (by first | exact z0 | go_simp)⟩
      clear hK K
      (try simp only [Act.put, List.setIfInBounds_toArray, List.set_cons_zero, List.set_cons_succ])
      refine wpAnyH_take (i := 20) (oi := ⟨_, _, _, _, _, _⟩) (v := ?_) rfl (by kernel_rfl) (by kernel_rfl) (by kernel_rfl) (fun _ _ _ h => h) (Or.inl ⟨by rfl, ?_⟩) (by assumption) ?_
      rotate_left
      · intro w hSw
        (try dsimp only at hSw)
        go_simp
        (try with_reducible rfl)
      (try simp only [Act.put, List.setIfInBounds_toArray, List.set_cons_zero, List.set_cons_succ])
      refine wpAnyH_take (i := 21) (oi := ⟨_, _, _, _, _, _⟩) (v := ?_) rfl (by kernel_rfl) (by kernel_rfl) (by kernel_rfl) (fun _ _ _ h => h) (Or.inl ⟨by rfl, ?_⟩) (by assumption) ?_
      rotate_left
      · intro w hSw
        (try dsimp only at hSw)
        go_simp
        (try with_reducible rfl)
      (try simp only [Act.put, List.setIfInBounds_toArray, List.set_cons_zero, List.set_cons_succ])
      refine wpAnyH_done (by kernel_rfl) ?_ _
      all_goals clear a0 a1 a2 l0 l1 al ll R RP RQ z0 z5
      all_goals go_wp2
      all_goals go_ret2
      all_goals exact ⟨none, 0, 0, by rw [OK.out]; rfl, by rw [chainV, if_neg (by rw [OK.out]; simp)]; exact OwnI.none_ _ _ _, B.out⟩
  | false =>
    have HO := Lib.hid how
    have OK := Lib.hid (show okChain W H xs a b ps qs = false by rw [okChain]; rcases Bool.and_eq_false_iff.1 how with h | h <;> rw [h] <;> simp)
    clear how
    go_enter Try.func40, Try.ntmps40
    go_wp2_with fail
    rw [← hW2]
    clear hW2
    refine wp_region_held_drew (S := fun w' => w'.cell? ⟨w.heap.size, 0, none⟩ = some (.int .i64 W) ∧ w'.cell? ⟨w.heap.size, 1, none⟩ = some (.int .i64 H) ∧ w'.cell? ⟨w.heap.size, 2, none⟩ = some (.slice A n c) ∧ w'.cell? ⟨w.heap.size + 1, 0, none⟩ = some (.int .i64 a) ∧ w'.cell? ⟨w.heap.size + 1, 1, none⟩ = some (.int .i64 b)) (by kernel_rfl) ?_ (fun hHeld => ?_)
    · (try dsimp only)
      exact ⟨(by first | exact a0 | go_simp), (by first | exact a1 | go_simp), (by first | exact a2 | go_simp), (by first | exact l0 | go_simp), (by first | exact l1 | go_simp)⟩
    refine wpAnyH_take (i := 0) (oi := ⟨_, _, _, _, _, _⟩) (v := ?_) rfl (by kernel_rfl) (by kernel_rfl) (by kernel_rfl) (fun _ _ _ h => h) (Or.inl ⟨by rfl, ?_⟩) (by assumption) ?_
    rotate_left
    · intro w hSw
      (try dsimp only at hSw)
      go_simp
      (try with_reducible rfl)
    (try simp only [Act.put, List.setIfInBounds_toArray, List.set_cons_zero, List.set_cons_succ])
    refine wpAnyH_take (i := 1) (oi := ⟨_, _, _, _, _, _⟩) (v := ?_) rfl (by kernel_rfl) (by kernel_rfl) (by kernel_rfl) (fun _ _ _ h => h) (Or.inl ⟨by rfl, ?_⟩) (by assumption) ?_
    rotate_left
    · intro w hSw
      (try dsimp only at hSw)
      go_simp
      (try with_reducible rfl)
    (try simp only [Act.put, List.setIfInBounds_toArray, List.set_cons_zero, List.set_cons_succ])
    refine wpAnyH_take (i := 2) (oi := ⟨_, _, _, _, _, _⟩) (v := ?_) rfl (by kernel_rfl) (by kernel_rfl) (by kernel_rfl) (fun _ _ _ h => h) (Or.inl ⟨by rfl, ?_⟩) (by assumption) ?_
    rotate_left
    · intro w hSw
      (try dsimp only at hSw)
      go_simp
      (try with_reducible rfl)
    (try simp only [Act.put, List.setIfInBounds_toArray, List.set_cons_zero, List.set_cons_succ])
    refine wpAnyH_take (i := 3) (oi := ⟨_, _, _, _, _, _⟩) (v := ?_) rfl (by kernel_rfl) (by kernel_rfl) (by kernel_rfl) (fun _ _ _ h => h) (Or.inl ⟨by rfl, ?_⟩) (by assumption) ?_
    rotate_left
    · intro w hSw
      (try dsimp only at hSw)
      go_simp
      (try with_reducible rfl)
    (try simp only [Act.put, List.setIfInBounds_toArray, List.set_cons_zero, List.set_cons_succ])
    refine wpAnyH_ready (rs := [4]) (by kernel_rfl) (by simp) ?_
    refine AllReadyH.cons (o := ⟨_, _, _, _, _, _⟩) rfl (fun K hK => ?_) AllReadyH.nil
    go_simp
    skip
    (try go_wp2_with fail)
    refine hK.out _ _ ?_ (fun hHeld => ?_)
    · (try dsimp only)
      exact ⟨(by first | exact a0 | go_simp), (by first | exact a1 | go_simp), (by first | exact a2 | go_simp), (by first | exact l0 | go_simp), (by first | exact l1 | go_simp)⟩
    clear hK K
    (try simp only [Act.put, List.setIfInBounds_toArray, List.set_cons_zero, List.set_cons_succ])
    refine wpAnyH_ready (rs := [5]) (by kernel_rfl) (by simp) ?_
    refine AllReadyH.cons (o := ⟨_, _, _, _, _, _⟩) rfl (fun K hK => ?_) AllReadyH.nil
    go_simp
    (go_at_call 54; refine (areWalks_any W H A n c xs a b _ 2 [ps, qs] _ ?_ ?_ rfl (by decide)).mono ?_; (exact (Rd.alloc (by exact R.out) _)); (exact walks_new2 (by exact RP.out) (by exact RQ.out) _); rw [wks_both, HO.out]; rintro e wx ⟨rfl, hb⟩; (repeat (first | replace hb := below_undrew hb | replace hb := below_undrewN hb)); replace hb := below_box hb; (repeat (first | replace hb := below_undrew hb | replace hb := below_undrewN hb)); replace a0 := cell_keep a0 al hb; replace a1 := cell_keep a1 al hb; replace a2 := cell_keep a2 al hb; replace al := lt_keep al hb; replace l0 := cell_keep l0 ll hb; replace l1 := cell_keep l1 ll hb; replace ll := lt_keep ll hb; replace R := Lib.hid (R.out.keep hb); replace RP := Lib.hid (RP.out.keep hb); replace RQ := Lib.hid (RQ.out.keep hb); replace B := Lib.hid (below_next B.out hb); clear hb)
    (try go_wp2_with fail)
    refine hK.out _ _ ?_ (fun hHeld => ?_)
    · (try dsimp only)
      exact ⟨(by first | exact a0 | go_simp), (by first | exact a1 | go_simp), (by first | exact a2 | go_simp), (by first | exact l0 | go_simp), (by first | exact l1 | go_simp)⟩
    clear hK K
    (try simp only [Act.put, List.setIfInBounds_toArray, List.set_cons_zero, List.set_cons_succ])
    refine wpAnyH_take (i := 6) (oi := ⟨_, _, _, _, _, _⟩) (v := ?_) rfl (by kernel_rfl) (by kernel_rfl) (by kernel_rfl) (fun _ _ _ h => h) (Or.inl ⟨by rfl, ?_⟩) (by assumption) ?_
    rotate_left
    · intro w hSw
      (try dsimp only at hSw)
      go_simp
      (try with_reducible rfl)
    (try simp only [Act.put, List.setIfInBounds_toArray, List.set_cons_zero, List.set_cons_succ])
    refine wpAnyH_take (i := 7) (oi := ⟨_, _, _, _, _, _⟩) (v := ?_) rfl (by kernel_rfl) (by kernel_rfl) (by kernel_rfl) (fun _ _ _ h => h) (Or.inl ⟨by rfl, ?_⟩) (by assumption) ?_
    rotate_left
    · intro w hSw
      (try dsimp only at hSw)
      go_simp
      (try with_reducible rfl)
    (try simp only [Act.put, List.setIfInBounds_toArray, List.set_cons_zero, List.set_cons_succ])
    refine wpAnyH_take (i := 8) (oi := ⟨_, _, _, _, _, _⟩) (v := undef) rfl (by kernel_rfl) (by kernel_rfl) (by kernel_rfl) (fun _ _ _ h => h) (Or.inr ⟨by rfl, rfl⟩) (by assumption) ?_
    (try simp only [Act.put, List.setIfInBounds_toArray, List.set_cons_zero, List.set_cons_succ])
    refine wpAnyH_take (i := 9) (oi := ⟨_, _, _, _, _, _⟩) (v := undef) rfl (by kernel_rfl) (by kernel_rfl) (by kernel_rfl) (fun _ _ _ h => h) (Or.inr ⟨by rfl, rfl⟩) (by assumption) ?_
    (try simp only [Act.put, List.setIfInBounds_toArray, List.set_cons_zero, List.set_cons_succ])
    refine wpAnyH_take (i := 10) (oi := ⟨_, _, _, _, _, _⟩) (v := undef) rfl (by kernel_rfl) (by kernel_rfl) (by kernel_rfl) (fun _ _ _ h => h) (Or.inr ⟨by rfl, rfl⟩) (by assumption) ?_
    (try simp only [Act.put, List.setIfInBounds_toArray, List.set_cons_zero, List.set_cons_succ])
    refine wpAnyH_take (i := 11) (oi := ⟨_, _, _, _, _, _⟩) (v := undef) rfl (by kernel_rfl) (by kernel_rfl) (by kernel_rfl) (fun _ _ _ h => h) (Or.inr ⟨by rfl, rfl⟩) (by assumption) ?_
    (try simp only [Act.put, List.setIfInBounds_toArray, List.set_cons_zero, List.set_cons_succ])
    refine wpAnyH_take (i := 12) (oi := ⟨_, _, _, _, _, _⟩) (v := undef) rfl (by kernel_rfl) (by kernel_rfl) (by kernel_rfl) (fun _ _ _ h => h) (Or.inr ⟨by rfl, rfl⟩) (by assumption) ?_
    (try simp only [Act.put, List.setIfInBounds_toArray, List.set_cons_zero, List.set_cons_succ])
    refine wpAnyH_take (i := 13) (oi := ⟨_, _, _, _, _, _⟩) (v := undef) rfl (by kernel_rfl) (by kernel_rfl) (by kernel_rfl) (fun _ _ _ h => h) (Or.inr ⟨by rfl, rfl⟩) (by assumption) ?_
    (try simp only [Act.put, List.setIfInBounds_toArray, List.set_cons_zero, List.set_cons_succ])
    refine wpAnyH_take (i := 14) (oi := ⟨_, _, _, _, _, _⟩) (v := undef) rfl (by kernel_rfl) (by kernel_rfl) (by kernel_rfl) (fun _ _ _ h => h) (Or.inr ⟨by rfl, rfl⟩) (by assumption) ?_
    (try simp only [Act.put, List.setIfInBounds_toArray, List.set_cons_zero, List.set_cons_succ])
    refine wpAnyH_take (i := 15) (oi := ⟨_, _, _, _, _, _⟩) (v := undef) rfl (by kernel_rfl) (by kernel_rfl) (by kernel_rfl) (fun _ _ _ h => h) (Or.inr ⟨by rfl, rfl⟩) (by assumption) ?_
    (try simp only [Act.put, List.setIfInBounds_toArray, List.set_cons_zero, List.set_cons_succ])
    refine wpAnyH_take (i := 16) (oi := ⟨_, _, _, _, _, _⟩) (v := undef) rfl (by kernel_rfl) (by kernel_rfl) (by kernel_rfl) (fun _ _ _ h => h) (Or.inr ⟨by rfl, rfl⟩) (by assumption) ?_
    (try simp only [Act.put, List.setIfInBounds_toArray, List.set_cons_zero, List.set_cons_succ])
    refine wpAnyH_take (i := 17) (oi := ⟨_, _, _, _, _, _⟩) (v := undef) rfl (by kernel_rfl) (by kernel_rfl) (by kernel_rfl) (fun _ _ _ h => h) (Or.inr ⟨by rfl, rfl⟩) (by assumption) ?_
    (try simp only [Act.put, List.setIfInBounds_toArray, List.set_cons_zero, List.set_cons_succ])
    refine wpAnyH_take (i := 18) (oi := ⟨_, _, _, _, _, _⟩) (v := undef) rfl (by kernel_rfl) (by kernel_rfl) (by kernel_rfl) (fun _ _ _ h => h) (Or.inr ⟨by rfl, rfl⟩) (by assumption) ?_
    (try simp only [Act.put, List.setIfInBounds_toArray, List.set_cons_zero, List.set_cons_succ])
    refine wpAnyH_take (i := 19) (oi := ⟨_, _, _, _, _, _⟩) (v := undef) rfl (by kernel_rfl) (by kernel_rfl) (by kernel_rfl) (fun _ _ _ h => h) (Or.inr ⟨by rfl, rfl⟩) (by assumption) ?_
    (try simp only [Act.put, List.setIfInBounds_toArray, List.set_cons_zero, List.set_cons_succ])
    refine wpAnyH_take (i := 20) (oi := ⟨_, _, _, _, _, _⟩) (v := undef) rfl (by kernel_rfl) (by kernel_rfl) (by kernel_rfl) (fun _ _ _ h => h) (Or.inr ⟨by rfl, rfl⟩) (by assumption) ?_
    (try simp only [Act.put, List.setIfInBounds_toArray, List.set_cons_zero, List.set_cons_succ])
    refine wpAnyH_take (i := 21) (oi := ⟨_, _, _, _, _, _⟩) (v := ?_) rfl (by kernel_rfl) (by kernel_rfl) (by kernel_rfl) (fun _ _ _ h => h) (Or.inl ⟨by rfl, ?_⟩) (by assumption) ?_
    rotate_left
    · intro w hSw
      (try dsimp only at hSw)
      go_simp
      (try with_reducible rfl)
    (try simp only [Act.put, List.setIfInBounds_toArray, List.set_cons_zero, List.set_cons_succ])
    refine wpAnyH_done (by kernel_rfl) ?_ _
    all_goals clear a0 a1 a2 l0 l1 al ll R RP RQ
    all_goals go_wp2
    all_goals go_ret2
    all_goals exact ⟨none, 0, 0, by rw [OK.out]; rfl, by rw [chainV, if_neg (by rw [OK.out]; simp)]; exact OwnI.none_ _ _ _, B.out⟩

end Go.Proofs.Ytphjkmikleldcaa
