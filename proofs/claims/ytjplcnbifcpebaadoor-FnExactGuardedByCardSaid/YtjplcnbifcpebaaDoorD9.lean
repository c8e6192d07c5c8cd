/-
  GuardedBy: what the law compares.
-/
import Derived.Test.YtjplcnbifcpebaaDoorD8
namespace Go.Proofs.YtjplcnbifcpebaaDoor
open Go.RowKit Go.Shelf

def guardV (W H : Int) (xs : List Int) (a b : Int) (ps : List Int) : List Int := if askB W H xs a b ps then guardL W H xs a b ps else []
theorem len_GuardedBy (W H : Int) (xs : List Int) (a b : Int) (ps : List Int) : (guardV W H xs a b ps).length ≤ 1000000 := by
  unfold guardV
  split
  · rename_i h
    have h3 : (cellsL W H xs).length ≤ (W * H).toNat := cellsTo_len _
    have h4 := List.length_filter_le (fun c => ps.contains c || ps.any fun f => leapB W a b f c) (cellsL W H xs)
    obtain ⟨hW, hH, _, _⟩ := goodB_iff.1 (ask_parts h).1
    have := cells_le hW hH
    rw [guardL]; omega
  · simp
theorem set_lt64 {W H : Int} {xs ps : List Int} (hg : goodB W H xs = true) (h : setB W H xs ps = true) : ∀ x ∈ ps, 0 ≤ x ∧ x < 64 := fun x hx => has_64 hg ((setB_facts h).1 x hx)

set_option maxRecDepth 100000 in
set_option maxHeartbeats 1000000 in
theorem spec_GuardedBy (W H : Int) (A : Option Addr) (n c : Nat) (xs : List Int) (a b : Int) (A2 : Option Addr) (m c2 : Nat) (ps : List Int) (w : World) (ha : Rd w A n xs) (hp : Rd w A2 m ps) :
    Calls Tryd.prog 7 #[brd W H A n c, lpr a b, .slice A2 m c2] w fun e w' => ∃ A' n' c', e = .returned (.tuple #[.slice A' n' c', .bool (askB W H xs a b ps)]) ∧ OwnI 3 w' w.heap.size A' n' c' (guardV W H xs a b ps) ∧ Below w.heap.size w w' := by
  cases ht : askB W H xs a b ps with
  | true =>
    have HT := Lib.hid ht
    go_enter Tryd.func7, Tryd.ntmps7
    go_wp2_with fail
    refine (guAsked_any W H A n c xs a b A2 m c2 ps _ ((ha.alloc _).alloc _) ((hp.alloc _).alloc _)).mono ?_
    rw [ht]
    rintro e wv ⟨rfl, hb⟩
    have hbx0 := below_box hb
    have a0 : wv.cell? ⟨w.heap.size, 0, none⟩ = some (.int .i64 W) := by simpa using newbox hbx0 0
    have a1 : wv.cell? ⟨w.heap.size, 1, none⟩ = some (.int .i64 H) := by simpa using newbox hbx0 1
    have a2 : wv.cell? ⟨w.heap.size, 2, none⟩ = some (.slice A n c) := by simpa using newbox hbx0 2
    have l0 : wv.cell? ⟨w.heap.size + 1, 0, none⟩ = some (.int .i64 a) := by simpa using newbox hb 0
    have l1 : wv.cell? ⟨w.heap.size + 1, 1, none⟩ = some (.int .i64 b) := by simpa using newbox hb 1
    have B := Lib.hid (below_box hbx0)
    clear hb hbx0 ht
    go_wp2_with fail
    refine (guGuarded_any W H A n c xs a b A2 m c2 ps _ (ha.keep B.out) (hp.keep B.out) (ask_parts HT.out).1 (setB_facts (ask_parts HT.out).2.2).1).mono ?_
    rintro e wv ⟨A', n', c', rfl, ho, hb⟩
    have HO := Lib.hid (ho.lower B.out.size)
    replace B := Lib.hid (below_next B.out hb)
    clear hb ho
    go_wp2
    go_ret2
    exact ⟨A', n', c', rfl, by rw [guardV, HT.out]; exact HO.out, B.out⟩
  | false =>
    go_enter Tryd.func7, Tryd.ntmps7
    go_wp2_with fail
    refine (guAsked_any W H A n c xs a b A2 m c2 ps _ ((ha.alloc _).alloc _) ((hp.alloc _).alloc _)).mono ?_
    rw [ht]
    rintro e wv ⟨rfl, hb⟩
    have B := Lib.hid (below_box (below_box hb))
    clear hb
    go_wp2
    go_ret2
    exact ⟨none, 0, 0, rfl, by rw [guardV, ht]; exact OwnI.none_ _ _ _, B.out⟩

set_option maxRecDepth 100000 in
set_option maxHeartbeats 1000000 in
theorem impl_GuardedBy (W H : Int) (A : Option Addr) (n c : Nat) (xs : List Int) (a b : Int) (A2 : Option Addr) (m c2 : Nat) (ps : List Int) (w : World) (ha : Rd w A n xs) (hp : Rd w A2 m ps) (hT : Tab64 w ∧ 0 < w.heap.size) :
    Calls Tryd.prog 11 #[brd W H A n c, lpr a b, .slice A2 m c2] w fun e w' => ∃ A' n' c', e = .returned (.tuple #[.slice A' n' c', .bool (askB W H xs a b ps)]) ∧ OwnI 3 w' w.heap.size A' n' c' (guardV W H xs a b ps) ∧ Below w.heap.size w w' := by
  cases ht : askB W H xs a b ps with
  | true =>
    have HT := Lib.hid ht
    obtain ⟨hg, hl, hsb⟩ := ask_parts ht
    have HG := Lib.hid hg; have HL := Lib.hid hl; have HS := Lib.hid hsb
    have HTab := Lib.hid hT
    clear hg hl hsb hT
    go_enter Tryd.func11, Tryd.ntmps11
    go_wp2_with fail
    refine (isSetOn_any W H A n c xs a b A2 m c2 ps _ ((ha.alloc _).alloc _) ((hp.alloc _).alloc _)).mono ?_
    rw [ht]
    rintro e wv ⟨rfl, hb⟩
    have hbx0 := below_box hb
    have a0 : wv.cell? ⟨w.heap.size, 0, none⟩ = some (.int .i64 W) := by simpa using newbox hbx0 0
    have a1 : wv.cell? ⟨w.heap.size, 1, none⟩ = some (.int .i64 H) := by simpa using newbox hbx0 1
    have a2 : wv.cell? ⟨w.heap.size, 2, none⟩ = some (.slice A n c) := by simpa using newbox hbx0 2
    have l0 : wv.cell? ⟨w.heap.size + 1, 0, none⟩ = some (.int .i64 a) := by simpa using newbox hb 0
    have l1 : wv.cell? ⟨w.heap.size + 1, 1, none⟩ = some (.int .i64 b) := by simpa using newbox hb 1
    have B := Lib.hid (below_box hbx0)
    clear hb hbx0 ht
    go_wp2_with fail
    refine (groundOf_any W H A n c xs a b _ (ha.keep B.out) HG.out HL.out (tab_keep HTab.out B.out).1 (tab_keep HTab.out B.out).2).mono ?_
    rintro e wv ⟨rfl, hb⟩
    replace B := Lib.hid (below_next B.out hb)
    clear hb a0 a1 a2 l0 l1
    obtain ⟨G, hG⟩ : ∃ G, G = glG W H xs a b := ⟨_, rfl⟩
    rw [show gl W H xs a b (cellsL W H xs) = G from hG.symm]
    have HGG := Lib.hid hG
    clear hG
    go_wp2_with fail
    refine (setOf_any A2 m c2 ps _ (hp.keep B.out) (set_lt64 HG.out HS.out)).mono ?_
    rintro e wv ⟨rfl, hb⟩
    replace B := Lib.hid (below_next B.out hb)
    clear hb
    have hG65 : Hid (G.length = 65) := Lib.hid (by rw [HGG.out]; exact glG_len _ _ _ _ _)
    have hGlt : Hid (∀ x ∈ G, x < 18446744073709551616) := Lib.hid (by rw [HGG.out]; exact glG_lt HG.out)
    obtain ⟨s, hs⟩ : ∃ s, s = setBits (ps.map Int.toNat) := ⟨_, rfl⟩
    rw [← hs]
    have HSS := Lib.hid hs
    have hs64 : Hid (s < 18446744073709551616) := Lib.hid (by rw [hs]; exact set_lt (set_lt64 HG.out HS.out))
    clear hs
    go_wp2_with fail
    refine (guardedBy_any G hG65.out hGlt.out s hs64.out _ (tab_keep HTab.out B.out).1 (tab_keep HTab.out B.out).2).mono ?_
    rintro e wv ⟨rfl, hb⟩
    replace B := Lib.hid (below_next B.out hb)
    clear hb
    obtain ⟨u, hu⟩ : ∃ u, u = grdL G (bitsL s) := ⟨_, rfl⟩
    rw [← hu]
    have hu64 : Hid (u < 18446744073709551616) := Lib.hid (by rw [hu]; exact grdL_lt hGlt.out _ (fun x hx => ⟨(bitsL_mem.1 hx).1, (bitsL_mem.1 hx).2.1⟩))
    have HU := Lib.hid (show bitsL u = guardL W H xs a b ps by
      rw [hu, HSS.out, setB_bits HG.out HS.out, HGG.out]; exact guard_bits HG.out (setB_facts HS.out).1)
    clear hu
    go_wp2_with fail
    refine (cells_any u hu64.out _ (tab_keep HTab.out B.out).1 (tab_keep HTab.out B.out).2).mono ?_
    rintro e wv ⟨A', n', c', rfl, ho, hb⟩
    have HO := Lib.hid (ho.lower B.out.size)
    replace B := Lib.hid (below_next B.out hb)
    clear hb ho
    go_wp2
    go_ret2
    exact ⟨A', n', c', rfl, by rw [guardV, HT.out, ← HU.out]; exact HO.out, B.out⟩
  | false =>
    clear hT
    go_enter Tryd.func11, Tryd.ntmps11
    go_wp2_with fail
    refine (isSetOn_any W H A n c xs a b A2 m c2 ps _ ((ha.alloc _).alloc _) ((hp.alloc _).alloc _)).mono ?_
    rw [ht]
    rintro e wv ⟨rfl, hb⟩
    have B := Lib.hid (below_box (below_box hb))
    clear hb
    go_wp2
    go_ret2
    exact ⟨none, 0, 0, rfl, by rw [guardV, ht]; exact OwnI.none_ _ _ _, B.out⟩
end Go.Proofs.YtjplcnbifcpebaaDoor
