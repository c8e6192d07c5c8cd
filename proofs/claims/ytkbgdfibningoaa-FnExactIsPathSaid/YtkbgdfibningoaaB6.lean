/-
  Contracts: leaps on plain boards, by the sizes alone; plain boards.
-/
import Derived.Test.YtkbgdfibningoaaB2
import Derived.Test.YtkbgdfibningoaaApp
import Derived.Deep.RegionHeld3
namespace Go.Proofs.Ytkbgdfibningoaa
open Go.RowKit

def posV (x : Int) : Int := if x < 0 then 0 else x
def roomV (s t : Int) : Int := posV (s - t)
theorem roomV_le {s t : Int} (h1 : 1 ≤ s ∧ s ≤ 8) (h2 : 0 ≤ t) : 0 ≤ roomV s t ∧ roomV s t ≤ 8 := by unfold roomV posV; split <;> omega
theorem mul_le8 {x y : Int} (hx : 0 ≤ x ∧ x ≤ 8) (hy : 0 ≤ y ∧ y ≤ 8) : 0 ≤ x * y ∧ x * y ≤ 64 :=
  ⟨Int.mul_nonneg hx.1 hy.1, by have := Int.mul_le_mul hx.2 hy.2 hy.1 (by omega); omega⟩
def oneV (m n a b : Int) : Int := roomV m a * roomV n b
def plainLeapsV (m n a b : Int) : Int := if sizeB m && sizeB n && leaperB a b then (if a = 0 then oneV m n a b + oneV m n b a else if a = b then 2 * oneV m n a b else 2 * (oneV m n a b + oneV m n b a)) else 0
def plainLeapsB (m n a b : Int) : Bool := sizeB m && sizeB n && leaperB a b
theorem oneV_le {m n a b : Int} (hm : 1 ≤ m ∧ m ≤ 8) (hn : 1 ≤ n ∧ n ≤ 8) (ha : 0 ≤ a) (hb : 0 ≤ b) : 0 ≤ oneV m n a b ∧ oneV m n a b ≤ 64 := mul_le8 (roomV_le hm ha) (roomV_le hn hb)

theorem quiet_drew {P : Program} {f : FuncId} {args : Array Value} {w : World} {a n : Nat} {v : Value} (h : Calls P f args (w.drewN (a + n)) fun e w' => e = .returned v ∧ w.drewN (a + n) = w') :
    Calls P f args (w.drewN (a + n)) fun e w' => e = .returned v ∧ ∃ m, w' = w.drewN (a + m) := h.mono fun _ _ ⟨he, hw⟩ => ⟨he, n, hw.symm⟩
theorem quiet_same {P : Program} {f : FuncId} {args : Array Value} {w : World} {v : Value} (h : Calls P f args w fun e w' => e = .returned v ∧ w = w') : Calls P f args w fun e w' => e = .returned v ∧ w' = w :=
  h.mono fun _ _ ⟨he, hw⟩ => ⟨he, hw.symm⟩

set_option maxHeartbeats 400000 in
theorem l1Most_any (x : Int) (w : World) :
    Calls Try.prog 103 #[.int .i64 0, .int .i64 x] w fun e w' => e = .returned (.int .i64 (posV x)) ∧ w = w' := by
  by_cases h : x < 0
  · go_enter Try.func103, Try.ntmps103
    go_wp2
    go_ret
    exact ⟨ret_int (by unfold posV; split <;> omega), rfl⟩
  · go_enter Try.func103, Try.ntmps103
    go_wp2
    go_ret
    exact ⟨ret_int (by unfold posV; split <;> omega), rfl⟩

set_option maxHeartbeats 400000 in
theorem room_any (s t : Int) (w : World) (h1 : 1 ≤ s ∧ s ≤ 8) (h2 : 0 ≤ t ∧ t ≤ 5) :
    Calls Try.prog 104 #[.int .i64 s, .int .i64 t] w fun e w' => e = .returned (.int .i64 (roomV s t)) ∧ w = w' := by
  obtain ⟨h1, h3⟩ := h1
  obtain ⟨h2, h4⟩ := h2
  by_cases h : s - t < 0
  · go_enter Try.func104, Try.ntmps104
    go_wp2
    all_goals (go_ret; exact ⟨ret_int (by unfold roomV posV; split <;> omega), rfl⟩)
  · go_enter Try.func104, Try.ntmps104
    go_wp2
    all_goals (go_ret; exact ⟨ret_int (by unfold roomV posV; split <;> omega), rfl⟩)

set_option maxHeartbeats 1000000 in
theorem spec_CountPlainLeaps (m n a b : Int) (w : World) :
    Calls Try.prog 59 #[.int .i64 m, .int .i64 n, lpr a b] w fun e w' => e = .returned (.tuple #[.int .i64 (plainLeapsV m n a b), .bool (plainLeapsB m n a b)]) ∧ Below w.heap.size w w' := by
  by_cases hs : (sizeB m && sizeB n) = true
  · by_cases hl : leaperB a b = true
    · have h1 : sizeB m = true := by simp at hs; exact hs.1
      have h2 : sizeB n = true := by simp at hs; exact hs.2
      have m1 := sizeB_iff.1 h1; have n1 := sizeB_iff.1 h2; have l1 := leaperB_iff.1 hl
      have hv : plainLeapsV m n a b = (if a = 0 then oneV m n a b + oneV m n b a else if a = b then 2 * oneV m n a b else 2 * (oneV m n a b + oneV m n b a)) := by rw [plainLeapsV, hs, hl]; rfl
      have hB : plainLeapsB m n a b = true := by rw [plainLeapsB, hs, hl]; rfl
      rw [hv, hB]
      have o1 := oneV_le m1 n1 (a := a) (b := b) (by omega) (by omega); have o2 := oneV_le m1 n1 (a := b) (b := a) (by omega) (by omega)
      unfold oneV roomV at o1 o2 ⊢
      obtain ⟨o1, o3⟩ := o1
      obtain ⟨o2, o4⟩ := o2
      obtain ⟨ma, mb⟩ := m1
      obtain ⟨na, nb⟩ := n1
      obtain ⟨la, lb, lc, ld⟩ := l1
      clear hv hB h1 h2
      go_enter Try.func59, Try.ntmps59
      go_wp2_with (go_at_call 80; refine (boSize_any _ _ _).mono ?_; rintro e w1 ⟨rfl, rfl⟩)
      refine (boLeaper_any _ _ _).mono ?_
      rintro e w1 ⟨rfl, hb1⟩
      have hb0 := newbox hb1 0; have hb2 := newbox hb1 1; have hlt := newbox_lt hb1
      simp only [List.getElem?_toArray, List.getElem?_cons_zero, List.getElem?_cons_succ] at hb0 hb2
      have HB1 := Lib.hid (below_box hb1)
      clear hb1
      by_cases ha0 : a = 0
      · subst ha0
        simp only [Int.sub_zero] at o1 o2 o3 o4 ⊢
        go_wp2_with fail
        go_quiet ((go_at_call 103; exact Calls.quiet_of_same (quiet_same (l1Most_any _ _))))
        go_wp2_with fail
        go_quiet ((go_at_call 103; exact quiet_drew (l1Most_any _ _)))
        go_wp2
        go_ret2
        exact ⟨rfl, below_drewN HB1.out _⟩
      · have ha1 : (a == 0) = false := by simpa using ha0
        by_cases hab : a = b
        · subst hab
          go_wp2_with fail
          go_quiet ((go_at_call 103; exact Calls.quiet_of_same (quiet_same (l1Most_any _ _))))
          go_wp2_with fail
          go_quiet ((go_at_call 103; exact quiet_drew (l1Most_any _ _)))
          go_wp2
          go_ret2
          exact ⟨rfl, below_drewN HB1.out _⟩
        · have hab1 : (a == b) = false := by simpa using hab
          go_wp2_with fail
          go_quiet ((go_at_call 103; exact Calls.quiet_of_same (quiet_same (l1Most_any _ _))))
          go_wp2_with fail
          go_quiet ((go_at_call 103; exact quiet_drew (l1Most_any _ _)))
          go_wp2
          go_ret2
          exact ⟨rfl, below_drewN HB1.out _⟩
    · have hl' : leaperB a b = false := by simpa using hl
      rw [show plainLeapsV m n a b = 0 by rw [plainLeapsV, hl']; simp, show plainLeapsB m n a b = false by rw [plainLeapsB, hl']; simp]
      go_enter Try.func59, Try.ntmps59
      go_wp2_with (go_at_call 80; refine (boSize_any _ _ _).mono ?_; rintro e w1 ⟨rfl, rfl⟩)
      refine (boLeaper_any _ _ _).mono ?_
      rw [hl']
      rintro e w1 ⟨rfl, hb1⟩
      have HB1 := Lib.hid (below_box hb1)
      clear hb1
      go_wp2
      go_ret2
      exact ⟨rfl, HB1.out⟩
  · have hs' : (sizeB m && sizeB n) = false := by simpa using hs
    rw [show plainLeapsV m n a b = 0 by rw [plainLeapsV, hs']; simp, show plainLeapsB m n a b = false by rw [plainLeapsB, hs']; simp]
    go_enter Try.func59, Try.ntmps59
    go_wp2_with (go_at_call 80; refine (boSize_any _ _ _).mono ?_; rw [hs']; rintro e w1 ⟨rfl, rfl⟩)
    go_ret2
    exact ⟨rfl, below_new (Below.refl _ _) _⟩

theorem plain_eq {m n a b : Int} (hs : (sizeB m && sizeB n) = true) (hl : leaperB a b = true) :
    plainLeapsV m n a b = (if 0 < a ∧ a < b then (oneV m n a b + oneV m n b a) * 2 else oneV m n a b + oneV m n b a) := by
  have l1 := leaperB_iff.1 hl
  rw [plainLeapsV, hs, hl]
  simp only [Bool.and_self, if_true]
  by_cases ha : a = 0
  · subst ha; simp
  · by_cases hab : a = b
    · subst hab; simp [ha]; omega
    · rw [if_neg ha, if_neg hab, if_pos (by omega)]; omega

set_option maxHeartbeats 1000000 in
theorem impl_CountPlainLeaps (m n a b : Int) (w : World) :
    Calls Try.prog 60 #[.int .i64 m, .int .i64 n, lpr a b] w fun e w' => e = .returned (.tuple #[.int .i64 (plainLeapsV m n a b), .bool (plainLeapsB m n a b)]) ∧ Below w.heap.size w w' := by
  by_cases h1 : sizeB m = true
  · by_cases h2 : sizeB n = true
    · have hs : (sizeB m && sizeB n) = true := by rw [h1, h2]; rfl
      by_cases hl : leaperB a b = true
      · have m1 := sizeB_iff.1 h1; have n1 := sizeB_iff.1 h2; have l1 := leaperB_iff.1 hl
        have hB : plainLeapsB m n a b = true := by rw [plainLeapsB, hs, hl]; rfl
        rw [plain_eq hs hl, hB]
        have o1 := oneV_le m1 n1 (a := a) (b := b) (by omega) (by omega); have o2 := oneV_le m1 n1 (a := b) (b := a) (by omega) (by omega)
        unfold oneV at o1 o2 ⊢
        obtain ⟨o1, o3⟩ := o1
        obtain ⟨o2, o4⟩ := o2
        obtain ⟨ma, mb⟩ := m1
        obtain ⟨na, nb⟩ := n1
        obtain ⟨la, lb, lc, ld⟩ := l1
        clear hB hs
        go_enter Try.func60, Try.ntmps60
        go_wp2_with (go_at_call 79; refine (isSize_any _ _).mono ?_; rintro e w1 ⟨rfl, rfl⟩)
        refine (isLeaper_any _ _ _).mono ?_
        rw [hl]
        rintro e w1 ⟨rfl, hb1⟩
        have hb0 := newbox hb1 0; have hb2 := newbox hb1 1; have hlt := newbox_lt hb1
        simp only [List.getElem?_toArray, List.getElem?_cons_zero, List.getElem?_cons_succ] at hb0 hb2
        have HB1 := Lib.hid (below_box hb1)
        clear hb1 hl h1 h2
        by_cases c1 : 0 < a
        · by_cases c2 : a < b
          · go_wp2_with fail
            go_quiet ((go_at_call 104; exact Calls.quiet_of_same (quiet_same (room_any _ _ _ (by omega) (by omega)))))
            go_wp2
            go_ret2
            exact ⟨rfl, below_drewN HB1.out _⟩
          · go_wp2_with fail
            go_quiet ((go_at_call 104; exact Calls.quiet_of_same (quiet_same (room_any _ _ _ (by omega) (by omega)))))
            go_wp2
            go_ret2
            exact ⟨rfl, below_drewN HB1.out _⟩
        · go_wp2_with fail
          go_quiet ((go_at_call 104; exact Calls.quiet_of_same (quiet_same (room_any _ _ _ (by omega) (by omega)))))
          go_wp2
          go_ret2
          exact ⟨rfl, below_drewN HB1.out _⟩
      · have hl' : leaperB a b = false := by simpa using hl
        rw [show plainLeapsV m n a b = 0 by rw [plainLeapsV, hl']; simp, show plainLeapsB m n a b = false by rw [plainLeapsB, hl']; simp]
        go_enter Try.func60, Try.ntmps60
        go_wp2_with (go_at_call 79; refine (isSize_any _ _).mono ?_; rintro e w1 ⟨rfl, rfl⟩)
        refine (isLeaper_any _ _ _).mono ?_
        rw [hl']
        rintro e w1 ⟨rfl, hb1⟩
        have HB1 := Lib.hid (below_box hb1)
        clear hb1
        go_wp2
        go_ret2
        exact ⟨rfl, HB1.out⟩
    · have h2' : sizeB n = false := by simpa using h2
      rw [show plainLeapsV m n a b = 0 by rw [plainLeapsV, h2']; simp, show plainLeapsB m n a b = false by rw [plainLeapsB, h2']; simp]
      go_enter Try.func60, Try.ntmps60
      go_wp2_with (go_at_call 79; refine (isSize_any _ _).mono ?_; rintro e w1 ⟨rfl, rfl⟩)
      go_ret2
      exact ⟨rfl, below_new (Below.refl _ _) _⟩
  · have h1' : sizeB m = false := by simpa using h1
    rw [show plainLeapsV m n a b = 0 by rw [plainLeapsV, h1']; simp, show plainLeapsB m n a b = false by rw [plainLeapsB, h1']; simp]
    go_enter Try.func60, Try.ntmps60
    go_wp2_with (go_at_call 79; refine (isSize_any _ _).mono ?_; rintro e w1 ⟨rfl, rfl⟩)
    go_ret2
    exact ⟨rfl, below_new (Below.refl _ _) _⟩

/-! ### Plain boards -/
def plainB (m n : Int) : Bool := sizeB m && sizeB n
def PlainBoard_w (m n : Int) : Int := if plainB m n then m else 0
def PlainBoard_h (m n : Int) : Int := if plainB m n then n else 0

set_option maxHeartbeats 400000 in
theorem spec_PlainBoard (m n : Int) (w : World) :
    Calls Try.prog 31 #[.int .i64 m, .int .i64 n] w fun e w' => ∃ A' n' c', e = .returned (.tuple #[brd (PlainBoard_w m n) (PlainBoard_h m n) A' n' c', .bool (plainB m n)]) ∧ OwnI 3 w' w.heap.size A' n' c' [] ∧ Below w.heap.size w w' := by
  suffices h : Calls Try.prog 31 #[.int .i64 m, .int .i64 n] w fun e w' => e = .returned (.tuple #[brd (PlainBoard_w m n) (PlainBoard_h m n) none 0 0, .bool (plainB m n)]) ∧ Below w.heap.size w w' from
    h.mono fun e w' ⟨he, hb⟩ => ⟨none, 0, 0, he, OwnI.none_ _ _ _, hb⟩
  by_cases hs : (sizeB m && sizeB n) = true
  · rw [show PlainBoard_w m n = m by rw [PlainBoard_w, plainB, hs]; rfl, show PlainBoard_h m n = n by rw [PlainBoard_h, plainB, hs]; rfl, show plainB m n = true by rw [plainB, hs]]
    go_enter Try.func31, Try.ntmps31
    go_wp2_with (go_at_call 80; refine (boSize_any _ _ _).mono ?_; rintro e w1 ⟨rfl, rfl⟩)
    exact bodyPost_ret (v := .tuple #[brd m n none 0 0, .bool true]) (by simp [results, Try.results31, go_sem]) rfl ⟨rfl, by repeat (first | exact Below.refl _ _ | refine below_new ?_ _ | refine Below.setCell ?_ (by simp) _)⟩
  · have hs' : (sizeB m && sizeB n) = false := by simpa using hs
    rw [show PlainBoard_w m n = 0 by rw [PlainBoard_w, plainB, hs']; rfl, show PlainBoard_h m n = 0 by rw [PlainBoard_h, plainB, hs']; rfl, show plainB m n = false by rw [plainB, hs']]
    go_enter Try.func31, Try.ntmps31
    go_wp2_with (go_at_call 80; refine (boSize_any _ _ _).mono ?_; rintro e w1 ⟨rfl, rfl⟩)
    exact bodyPost_ret (v := .tuple #[brd 0 0 none 0 0, .bool false]) (by simp [results, Try.results31, go_sem]) rfl ⟨rfl, by repeat (first | exact Below.refl _ _ | refine below_new ?_ _ | refine Below.setCell ?_ (by simp) _)⟩

set_option maxHeartbeats 400000 in
theorem impl_PlainBoard (m n : Int) (w : World) :
    Calls Try.prog 32 #[.int .i64 m, .int .i64 n] w fun e w' => ∃ A' n' c', e = .returned (.tuple #[brd (PlainBoard_w m n) (PlainBoard_h m n) A' n' c', .bool (plainB m n)]) ∧ OwnI 3 w' w.heap.size A' n' c' [] ∧ Below w.heap.size w w' := by
  suffices h : Calls Try.prog 32 #[.int .i64 m, .int .i64 n] w fun e w' => e = .returned (.tuple #[brd (PlainBoard_w m n) (PlainBoard_h m n) none 0 0, .bool (plainB m n)]) ∧ Below w.heap.size w w' from
    h.mono fun e w' ⟨he, hb⟩ => ⟨none, 0, 0, he, OwnI.none_ _ _ _, hb⟩
  by_cases h1 : sizeB m = true
  · by_cases h2 : sizeB n = true
    · have hs : (sizeB m && sizeB n) = true := by rw [h1, h2]; rfl
      rw [show PlainBoard_w m n = m by rw [PlainBoard_w, plainB, hs]; rfl, show PlainBoard_h m n = n by rw [PlainBoard_h, plainB, hs]; rfl, show plainB m n = true by rw [plainB, hs]]
      clear hs
      go_enter Try.func32, Try.ntmps32
      go_wp2_with (go_at_call 79; refine (isSize_any _ _).mono ?_; rintro e w1 ⟨rfl, rfl⟩)
      exact bodyPost_ret (v := .tuple #[brd m n none 0 0, .bool true]) (by simp [results, Try.results32, go_sem]) rfl ⟨rfl, by repeat (first | exact Below.refl _ _ | refine below_new ?_ _ | refine Below.setCell ?_ (by simp) _)⟩
    · have h2' : sizeB n = false := by simpa using h2
      have hs' : (sizeB m && sizeB n) = false := by rw [h2']; simp
      rw [show PlainBoard_w m n = 0 by rw [PlainBoard_w, plainB, hs']; rfl, show PlainBoard_h m n = 0 by rw [PlainBoard_h, plainB, hs']; rfl, show plainB m n = false by rw [plainB, hs']]
      clear hs'
      go_enter Try.func32, Try.ntmps32
      go_wp2_with (go_at_call 79; refine (isSize_any _ _).mono ?_; rintro e w1 ⟨rfl, rfl⟩)
      exact bodyPost_ret (v := .tuple #[brd 0 0 none 0 0, .bool false]) (by simp [results, Try.results32, go_sem]) rfl ⟨rfl, by repeat (first | exact Below.refl _ _ | refine below_new ?_ _ | refine Below.setCell ?_ (by simp) _)⟩
  · have h1' : sizeB m = false := by simpa using h1
    have hs' : (sizeB m && sizeB n) = false := by rw [h1']; simp
    rw [show PlainBoard_w m n = 0 by rw [PlainBoard_w, plainB, hs']; rfl, show PlainBoard_h m n = 0 by rw [PlainBoard_h, plainB, hs']; rfl, show plainB m n = false by rw [plainB, hs']]
    clear hs'
    go_enter Try.func32, Try.ntmps32
    go_wp2_with (go_at_call 79; refine (isSize_any _ _).mono ?_; rintro e w1 ⟨rfl, rfl⟩)
    exact bodyPost_ret (v := .tuple #[brd 0 0 none 0 0, .bool false]) (by simp [results, Try.results32, go_sem]) rfl ⟨rfl, by repeat (first | exact Below.refl _ _ | refine below_new ?_ _ | refine Below.setCell ?_ (by simp) _)⟩

end Go.Proofs.Ytkbgdfibningoaa
