/-
  The walk of the exact law on FirstDesk: it answers true, and what was there stays.
-/
import Derived.Test.YtadopgfpfbianaaLaw0
import Derived.Test.YtadopgfpfbianaaX1
import Derived.Test.YtadopgfpfbianaaX2
namespace Go.Proofs.Ytadopgfpfbianaa
open Go.RowKit

set_option maxHeartbeats 4000000 in
set_option maxRecDepth 100000 in
theorem law_FirstDesk (w : World) :
    Calls Try.prog 3 #[] w fun e w' => e = .returned (.bool true) ∧ Below w.heap.size w w' := by
  have B := Lib.hid (Below.refl w.heap.size w)
  go_enter Try.func3, Try.ntmps3
  go_wp2_with fail
  refine (spec_FirstDesk _).mono ?_
  rintro e wv ⟨rfl, hb⟩
  replace B := Lib.hid (below_next B.out hb)
  clear hb
  go_wp2_with fail
  obtain ⟨wn, hWn⟩ : ∃ W5, W5 = wv.alloc (.cells #[.int .i64 4, .int .i64 3, .slice none 0 0, .int .i64 1, .int .i64 2, .slice none 0 0] 28) := ⟨_, rfl⟩
  obtain ⟨kw, hkn⟩ : ∃ k5, k5 = wv.heap.size := ⟨_, rfl⟩
  have hb : Below wv.heap.size wv wn := by rw [hWn]; exact below_new (Below.refl _ _) _
  have BXw := Lib.hid (show Bx wn kw #[.int .i64 4, .int .i64 3, .slice none 0 0, .int .i64 1, .int .i64 2, .slice none 0 0] 28 by rw [hWn, hkn]; exact Bx.new _ _ _)
  rw [← hWn, ← hkn]
  clear hWn hkn
  replace B := Lib.hid (below_next B.out hb)
  clear hb
  obtain ⟨wv, hwq⟩ : ∃ w5, w5 = wn := ⟨_, rfl⟩
  subst hwq
  refine (impl_FirstDesk _).mono ?_
  rintro e wv ⟨rfl, hb⟩
  replace BXw := Lib.hid (BXw.out.keep hb)
  replace B := Lib.hid (below_next B.out hb)
  clear hb
  have q0 : wv.cell? ⟨kw, 0, none⟩ = some (.int .i64 4) := BXw.out.cell rfl
  have q1 : wv.cell? ⟨kw, 1, none⟩ = some (.int .i64 3) := BXw.out.cell rfl
  have q2 : wv.cell? ⟨kw, 2, none⟩ = some (.slice none 0 0) := BXw.out.cell rfl
  have q3 : wv.cell? ⟨kw, 3, none⟩ = some (.int .i64 1) := BXw.out.cell rfl
  have q4 : wv.cell? ⟨kw, 4, none⟩ = some (.int .i64 2) := BXw.out.cell rfl
  have q5 : wv.cell? ⟨kw, 5, none⟩ = some (.slice none 0 0) := BXw.out.cell rfl
  have ql : kw < wv.heap.size := BXw.out.lt
  go_wp2_with fail
  clear q0 q1 q2 q3 q4 q5 ql
  obtain ⟨wn, hWn⟩ : ∃ W5, W5 = wv.alloc (.cells #[.int .i64 4, .int .i64 3, .slice none 0 0, .int .i64 1, .int .i64 2, .slice none 0 0] 28) := ⟨_, rfl⟩
  obtain ⟨kv, hkn⟩ : ∃ k5, k5 = wv.heap.size := ⟨_, rfl⟩
  have hb : Below wv.heap.size wv wn := by rw [hWn]; exact below_new (Below.refl _ _) _
  have BXv := Lib.hid (show Bx wn kv #[.int .i64 4, .int .i64 3, .slice none 0 0, .int .i64 1, .int .i64 2, .slice none 0 0] 28 by rw [hWn, hkn]; exact Bx.new _ _ _)
  rw [← hWn, ← hkn]
  clear hWn hkn
  replace BXw := Lib.hid (BXw.out.keep hb)
  replace B := Lib.hid (below_next B.out hb)
  clear hb
  obtain ⟨wv, hwq⟩ : ∃ w5, w5 = wn := ⟨_, rfl⟩
  subst hwq
  refine (eqDesk_any 4 3 _ _ _ 1 2 _ _ _ _ _ _ _ _ _ [] [] [] [] _ (Rd.nil _ _) (Rd.nil _ _) (Rd.nil _ _) (Rd.nil _ _)).mono ?_
  simp only [decide_true, Bool.and_self]
  rintro e wv ⟨rfl, hb⟩
  replace BXw := Lib.hid (BXw.out.keep hb)
  replace BXv := Lib.hid (BXv.out.keep hb)
  replace B := Lib.hid (below_next B.out hb)
  clear hb
  have p0 : wv.cell? ⟨kv, 0, none⟩ = some (.int .i64 4) := BXv.out.cell rfl
  have p1 : wv.cell? ⟨kv, 1, none⟩ = some (.int .i64 3) := BXv.out.cell rfl
  have p2 : wv.cell? ⟨kv, 2, none⟩ = some (.slice none 0 0) := BXv.out.cell rfl
  have p3 : wv.cell? ⟨kv, 3, none⟩ = some (.int .i64 1) := BXv.out.cell rfl
  have p4 : wv.cell? ⟨kv, 4, none⟩ = some (.int .i64 2) := BXv.out.cell rfl
  have p5 : wv.cell? ⟨kv, 5, none⟩ = some (.slice none 0 0) := BXv.out.cell rfl
  have pl : kv < wv.heap.size := BXv.out.lt
  go_wp2_with fail
  clear p0 p1 p2 p3 p4 p5 pl
  refine (markDesk_any 4 3 none 0 0 1 2 none 0 0 0 1 [] [] _ (OwnI.none_ _ _ _) (OwnI.none_ _ _ _) (fun y h => by cases h) (fun y h => by cases h) (by omega) (by simp)).mono ?_
  rintro e wm ⟨rfl, -, -, w9, hg1, hg2⟩
  have hb := below_of_grown (grown_next hg1 hg2) (Nat.le_refl _) (fun g h => by cases h)
  clear hg1 hg2
  replace BXw := Lib.hid (BXw.out.keep hb)
  replace BXv := Lib.hid (BXv.out.keep hb)
  replace B := Lib.hid (below_next B.out hb)
  clear hb
  obtain ⟨wv, hwq⟩ : ∃ w5, w5 = wm := ⟨_, rfl⟩
  subst hwq
  have p0 : wv.cell? ⟨kv, 0, none⟩ = some (.int .i64 4) := BXv.out.cell rfl
  have p1 : wv.cell? ⟨kv, 1, none⟩ = some (.int .i64 3) := BXv.out.cell rfl
  have p2 : wv.cell? ⟨kv, 2, none⟩ = some (.slice none 0 0) := BXv.out.cell rfl
  have p3 : wv.cell? ⟨kv, 3, none⟩ = some (.int .i64 1) := BXv.out.cell rfl
  have p4 : wv.cell? ⟨kv, 4, none⟩ = some (.int .i64 2) := BXv.out.cell rfl
  have p5 : wv.cell? ⟨kv, 5, none⟩ = some (.slice none 0 0) := BXv.out.cell rfl
  have pl : kv < wv.heap.size := BXv.out.lt
  go_wp2_with fail
  clear p0 p1 p2 p3 p4 p5 pl
  refine (heldDesk_any 4 3 none 0 0 1 2 none 0 0 1 _ (Rd.nil _ _) (Rd.nil _ _) (by omega) (by simp)).mono ?_
  rintro e wv ⟨rfl, hb⟩
  replace BXw := Lib.hid (BXw.out.keep hb)
  replace BXv := Lib.hid (BXv.out.keep hb)
  replace B := Lib.hid (below_next B.out hb)
  clear hb
  go_wp2_with fail
  refine (impl_FirstDesk _).mono ?_
  rintro e wv ⟨rfl, hb⟩
  replace BXw := Lib.hid (BXw.out.keep hb)
  replace BXv := Lib.hid (BXv.out.keep hb)
  replace B := Lib.hid (below_next B.out hb)
  clear hb
  have q0 : wv.cell? ⟨kw, 0, none⟩ = some (.int .i64 4) := BXw.out.cell rfl
  have q1 : wv.cell? ⟨kw, 1, none⟩ = some (.int .i64 3) := BXw.out.cell rfl
  have q2 : wv.cell? ⟨kw, 2, none⟩ = some (.slice none 0 0) := BXw.out.cell rfl
  have q3 : wv.cell? ⟨kw, 3, none⟩ = some (.int .i64 1) := BXw.out.cell rfl
  have q4 : wv.cell? ⟨kw, 4, none⟩ = some (.int .i64 2) := BXw.out.cell rfl
  have q5 : wv.cell? ⟨kw, 5, none⟩ = some (.slice none 0 0) := BXw.out.cell rfl
  have ql : kw < wv.heap.size := BXw.out.lt
  go_wp2_with fail
  clear q0 q1 q2 q3 q4 q5 ql
  obtain ⟨wn, hWn⟩ : ∃ W5, W5 = wv.alloc (.cells #[.int .i64 4, .int .i64 3, .slice none 0 0, .int .i64 1, .int .i64 2, .slice none 0 0] 28) := ⟨_, rfl⟩
  obtain ⟨kh, hkn⟩ : ∃ k5, k5 = wv.heap.size := ⟨_, rfl⟩
  have hb : Below wv.heap.size wv wn := by rw [hWn]; exact below_new (Below.refl _ _) _
  have BXh := Lib.hid (show Bx wn kh #[.int .i64 4, .int .i64 3, .slice none 0 0, .int .i64 1, .int .i64 2, .slice none 0 0] 28 by rw [hWn, hkn]; exact Bx.new _ _ _)
  rw [← hWn, ← hkn]
  clear hWn hkn
  replace BXw := Lib.hid (BXw.out.keep hb)
  replace BXv := Lib.hid (BXv.out.keep hb)
  replace B := Lib.hid (below_next B.out hb)
  clear hb
  obtain ⟨wv, hwq⟩ : ∃ w5, w5 = wn := ⟨_, rfl⟩
  subst hwq
  refine (eqDesk_any 4 3 _ _ _ 1 2 _ _ _ _ _ _ _ _ _ [] [] [] [] _ (Rd.nil _ _) (Rd.nil _ _) (Rd.nil _ _) (Rd.nil _ _)).mono ?_
  simp only [decide_true, Bool.and_self]
  rintro e wv ⟨rfl, hb⟩
  replace BXw := Lib.hid (BXw.out.keep hb)
  replace BXv := Lib.hid (BXv.out.keep hb)
  replace BXh := Lib.hid (BXh.out.keep hb)
  replace B := Lib.hid (below_next B.out hb)
  clear hb
  have p0 : wv.cell? ⟨kv, 0, none⟩ = some (.int .i64 4) := BXv.out.cell rfl
  have p1 : wv.cell? ⟨kv, 1, none⟩ = some (.int .i64 3) := BXv.out.cell rfl
  have p2 : wv.cell? ⟨kv, 2, none⟩ = some (.slice none 0 0) := BXv.out.cell rfl
  have p3 : wv.cell? ⟨kv, 3, none⟩ = some (.int .i64 1) := BXv.out.cell rfl
  have p4 : wv.cell? ⟨kv, 4, none⟩ = some (.int .i64 2) := BXv.out.cell rfl
  have p5 : wv.cell? ⟨kv, 5, none⟩ = some (.slice none 0 0) := BXv.out.cell rfl
  have pl : kv < wv.heap.size := BXv.out.lt
  go_wp2_with fail
  clear p0 p1 p2 p3 p4 p5 pl
  refine (heldDesk_any 4 3 none 0 0 1 2 none 0 0 1 _ (Rd.nil _ _) (Rd.nil _ _) (by omega) (by simp)).mono ?_
  rintro e wv ⟨rfl, hb⟩
  replace BXw := Lib.hid (BXw.out.keep hb)
  replace BXv := Lib.hid (BXv.out.keep hb)
  replace BXh := Lib.hid (BXh.out.keep hb)
  replace B := Lib.hid (below_next B.out hb)
  clear hb
  go_wp2
  go_ret
  exact ⟨rfl, B.out⟩

end Go.Proofs.Ytadopgfpfbianaa
