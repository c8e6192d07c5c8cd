/-
  Contracts: DistanceBetween, the model.
-/
import Derived.Test.YtoangjjikmjkgaaT5a
namespace Go.Proofs.Ytoangjjikmjkgaa
open Go.RowKit

set_option maxRecDepth 100000 in
set_option maxHeartbeats 2000000 in
theorem spec_DistanceBetween (W H : Int) (A : Option Addr) (n c : Nat) (xs : List Int) (a b : Int) (p : Int) (q : Int) (w : World) (ha : Rd w A n xs) :
    Calls Try.prog 11 #[brd W H A n c, lpr a b, .int .i64 p, .int .i64 q] w fun e w' => e = .returned (.tuple #[.int .i64 (distBV W H xs a b p q), .bool (okDist W H xs a b p q)]) ∧ Below w.heap.size w w' := by
  by_cases ho : onB W H xs a b [p, q] = true
  · have FO := on_facts (onB_two ho).1
    have HP := Lib.hid (onB_two ho).2.1
    have HQ := Lib.hid (onB_two ho).2.2
    obtain ⟨N, hN⟩ : ∃ N, N = (W * H).toNat := ⟨_, rfl⟩
    rw [← hN] at FO
    have hp0 := (hasB_iff.1 HP.out).1
    have hq0 := (hasB_iff.1 HQ.out).1
    rw [FO.wh] at hp0 hq0
    obtain ⟨s, rfl⟩ : ∃ s : Nat, p = (s : Int) := ⟨p.toNat, by omega⟩
    obtain ⟨t, rfl⟩ : ∃ t : Nat, q = (t : Int) := ⟨q.toNat, by omega⟩
    have hs : s < N := by omega
    have ht : t < N := by omega
    have HF := Lib.hid FO
    have n64 := FO.n.2
    have HD := Lib.hid (dist_at FO HP.out ht)
    have DLO := HD.out.2.1
    have DHI := HD.out.2.2
    have HO := Lib.hid ho
    obtain ⟨dv, hdv⟩ : ∃ dv, dv = distV W H xs a b (s : Int) (t : Int) := ⟨_, rfl⟩
    rw [← hdv] at DLO DHI
    have HDV := Lib.hid hdv
    have hL : farL (leapsL W H xs a b) N (s : Int) = distL W H xs a b (s : Int) := by rw [distL, hN]
    have HL := Lib.hid hL
    clear FO hp0 hq0 hN hdv hL
    go_enter Try.func11, Try.ntmps11
    go_wp2_with fail
    refine (faAsked_any _ _ _ _ _ _ _ _ _ _ _ ((ha.alloc _).alloc _)).mono ?_
    rw [ho]
    rintro e wv ⟨rfl, hb⟩
    have hbx0 := below_box hb
    have a0 : wv.cell? ⟨w.heap.size, 0, none⟩ = some (.int .i64 W) := by simpa using newbox hbx0 0
    have a1 : wv.cell? ⟨w.heap.size, 1, none⟩ = some (.int .i64 H) := by simpa using newbox hbx0 1
    have a2 : wv.cell? ⟨w.heap.size, 2, none⟩ = some (.slice A n c) := by simpa using newbox hbx0 2
    have al : w.heap.size < wv.heap.size := by simpa using newbox_lt hbx0
    have l0 : wv.cell? ⟨w.heap.size + 1, 0, none⟩ = some (.int .i64 a) := by simpa using newbox hb 0
    have l1 : wv.cell? ⟨w.heap.size + 1, 1, none⟩ = some (.int .i64 b) := by simpa using newbox hb 1
    have ll : w.heap.size + 1 < wv.heap.size := by simpa using newbox_lt hb
    have B := Lib.hid (below_box hbx0)
    clear hb hbx0
    go_wp2_with fail
    refine (faFrom_any W H A n c xs a b s N _ (ha.keep B.out) HF.out.g HF.out.wh hs).mono ?_
    rintro e wx ⟨g, rfl, own, hb⟩
    rw [HL.out] at own
    have x0 := own.rd.at_ ht
    obtain ⟨bb, oo, x, he, hg1, hx, x0⟩ := x0
    injection he with he
    have hxv : x = dv := by have h9 := HD.out.1; rw [hx] at h9; rw [HDV.out]; exact Option.some.inj h9
    subst hxv
    injection he with he1 he2
    subst he1
    replace B := Lib.hid (below_next B.out hb)
    clear own hb hx
    by_cases hn : x < 0
    · go_wp2
      go_ret2
      exact ⟨by rw [show okDist W H xs a b (s : Int) (t : Int) = false by rw [okDist, ← HDV.out, HO.out]; simpa using hn, distBV, if_neg (by rw [okDist, ← HDV.out, HO.out]; simpa using hn)]; rfl, B.out⟩
    · go_wp2
      go_ret2
      exact ⟨by rw [show okDist W H xs a b (s : Int) (t : Int) = true by rw [okDist, ← HDV.out, HO.out]; simpa using hn, distBV, if_pos (by rw [okDist, ← HDV.out, HO.out]; simpa using hn), HDV.out]; rfl, B.out⟩
  · have ho' : onB W H xs a b [p, q] = false := by simpa using ho
    go_enter Try.func11, Try.ntmps11
    go_wp2_with fail
    refine (faAsked_any _ _ _ _ _ _ _ _ _ _ _ ((ha.alloc _).alloc _)).mono ?_
    rw [ho']
    rintro e wv ⟨rfl, hb⟩
    have hbx0 := below_box hb
    have a0 : wv.cell? ⟨w.heap.size, 0, none⟩ = some (.int .i64 W) := by simpa using newbox hbx0 0
    have a1 : wv.cell? ⟨w.heap.size, 1, none⟩ = some (.int .i64 H) := by simpa using newbox hbx0 1
    have a2 : wv.cell? ⟨w.heap.size, 2, none⟩ = some (.slice A n c) := by simpa using newbox hbx0 2
    have al : w.heap.size < wv.heap.size := by simpa using newbox_lt hbx0
    have l0 : wv.cell? ⟨w.heap.size + 1, 0, none⟩ = some (.int .i64 a) := by simpa using newbox hb 0
    have l1 : wv.cell? ⟨w.heap.size + 1, 1, none⟩ = some (.int .i64 b) := by simpa using newbox hb 1
    have ll : w.heap.size + 1 < wv.heap.size := by simpa using newbox_lt hb
    have B := Lib.hid (below_box hbx0)
    clear hb hbx0
    go_wp2
    go_ret2
    exact ⟨by rw [show okDist W H xs a b p q = false by rw [okDist, ho']; rfl, distBV, if_neg (by rw [okDist, ho']; simp)]; rfl, B.out⟩

end Go.Proofs.Ytoangjjikmjkgaa
