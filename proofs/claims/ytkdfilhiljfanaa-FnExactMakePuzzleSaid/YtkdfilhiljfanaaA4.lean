/-
  Contracts: the plan of a puzzle behind its recovered door; IsPuzzle, the program.
-/
import Derived.Test.YtkdfilhiljfanaaA3
import Derived.Recover
namespace Go.Proofs.Ytkdfilhiljfanaa
open Go.RowKit


theorem assert_mis (w : World) (v : Int) : (Instr.typeAssert (.iface 88 (.int .i64 v)) 20 88 true).run Try.prog w = .ok (.tuple #[.int .i64 v, .bool true]) w := by kernel_rfl
theorem assert_mis_nil (w : World) : (Instr.typeAssert .nilIface 20 88 true).run Try.prog w = .ok (.tuple #[.int .i64 0, .bool false]) w := by kernel_rfl
set_option maxRecDepth 100000 in
set_option maxHeartbeats 1000000 in
theorem door_panicking (g1 g2 lo : Nat) (v : Int) (older : List PanicEntry) (w : World) (h1 : Bx w g1 (words zero20).toArray 63) (h2 : Bx w g2 #[.bool false] 4) (l1 : lo ≤ g1) (l2 : lo ≤ g2) (hne : g1 ≠ g2) (hlo : lo ≤ w.heap.size) :
    CallsD Try.prog 72 #[.pointer (some ⟨g1, 0, none⟩), .pointer (some ⟨g2, 0, none⟩)] (.panicking ({ v := .iface 88 (.int .i64 v), recovered := false } :: older)) w fun e u' w' =>
      e = .returned (.tuple #[]) ∧ u' = .panicking ({ v := .iface 88 (.int .i64 v), recovered := true } :: older) ∧ Bx w' g1 (words zero20).toArray 63 ∧ Bx w' g2 #[.bool false] 4 ∧ Below lo w w' := by
  refine callsD_of_wpS Try.func72 rfl fun c₀ cs hu => ?_
  apply wpS_seq
  apply wpS_region
  simp [wpOpsS, go_sem, recoverD, hu, Try.ntmps72, Exit.thenS, assert_mis]
  simp only [Array.replicate_succ, Array.replicate_zero, List.push_toArray, List.nil_append, List.cons_append, List.setIfInBounds_toArray, List.set_cons_zero, List.set_cons_succ, List.append_toArray]
  refine wpS_of_wp ?_
  have hg := grown_setRow w g1 (words zero20).toArray
  have h3 := h2.grown hg (by simp; omega)
  have h4 := h1.row (words zero20).toArray
  have f0 : (w.setRow g1 (words zero20).toArray).frozen? ⟨g2, 0, none⟩ = false := h3.frozen 0
  have c0 : (w.setRow g1 (words zero20).toArray).cell? ⟨g2, 0, none⟩ = some (.bool false) := h3.cell rfl
  have hb := (Below.refl lo w).grown hg hlo (fun g9 h9 => by injection h9 with h9; omega)
  go_wp2_with (first | refine wpList_store_row rfl 63 _ _ rfl g1 _ (words zero20).toArray rfl rfl h1 (by rw [infoPlan]; simp [words, zero20_len]) (by rfl) (all_oneCell_toArray (words_one _)) ?_)
  have h5 := h3.set 0 (.bool false)
  have hg2 : (w.setRow g1 (words zero20).toArray).grownBy ((w.setRow g1 (words zero20).toArray).setCell ⟨g2, 0, none⟩ (.bool false)) (some g2) := grownSet1 _ _ _
  exact ⟨rfl, _, rfl, .tuple #[], by simp [results, Try.results72], rfl, rfl, h4.grown hg2 (by simp; omega), h5, hb.grown hg2 (Nat.le_trans hlo hg.size) (fun g9 h9 => by injection h9 with h9; omega)⟩

set_option maxRecDepth 100000 in
set_option maxHeartbeats 1000000 in
theorem door_idle (g1 g2 : Nat) (w : World) :
    CallsD Try.prog 72 #[.pointer (some ⟨g1, 0, none⟩), .pointer (some ⟨g2, 0, none⟩)] .returning w fun e u' w' => e = .returned (.tuple #[]) ∧ u' = .returning ∧ w' = w := by
  refine callsD_of_wpS Try.func72 rfl fun c₀ cs hu => ?_
  apply wpS_seq
  apply wpS_region
  simp [wpOpsS, go_sem, recoverD, hu, Try.ntmps72, Exit.thenS, assert_mis_nil]
  simp only [Array.replicate_succ, Array.replicate_zero, List.push_toArray, List.nil_append, List.cons_append, List.setIfInBounds_toArray, List.set_cons_zero, List.set_cons_succ, List.append_toArray]
  refine wpS_of_wp ?_
  go_wp2
  cases c₀
  simp_all [bodyPostS, results, Try.results72]

theorem results_row_bool {fn : Func} {p q : Tmp} (h : fn.results = #[.cell p 63, .cell q 4]) (tmps : Array Value) (w : World) (g g2 : Nat) (cs : List Value) (bv : Bool)
    (hp : tmps.getD p undef = .pointer (some ⟨g, 0, none⟩)) (hq : tmps.getD q undef = .pointer (some ⟨g2, 0, none⟩)) (hg : Bx w g cs.toArray 63) (hg2 : Bx w g2 #[.bool bv] 4) (hl : cs.length = 20) :
    (results fn tmps).run Try.prog w = .ok (.tuple #[.agg cs.toArray, .bool bv]) w := by
  have hp' : tmps[p]?.getD undef = .pointer (some ⟨g, 0, none⟩) := by simpa using hp
  have hq' : tmps[q]?.getD undef = .pointer (some ⟨g2, 0, none⟩) := by simpa using hq
  have c0 : w.cell? ⟨g2, 0, none⟩ = some (.bool bv) := hg2.cell rfl
  have h1 := run_loadVar_row (P := Try.prog) w g 63 63 cs.toArray (0, 0) _ hg Try.underlying63 rfl (by rw [infoPlan]; simp [hl])
  have h2 : (loadVar 4 ⟨g2, 0, none⟩).run Try.prog w = .ok (.bool bv) w := by simp [go_sem, c0]
  simp [results, h, hp', hq', asAddr, h1, h2]

/-- What planOf returns. -/
def planEnd (W H : Int) (xs : List Int) (a b : Int) (ns : List Int) : Value := .tuple #[.agg (words (planV W H xs a b ns)).toArray, .bool (goodP W H xs a b ns)]
theorem planEnd_no {W H a b : Int} {xs ns : List Int} (h : goodP W H xs a b ns = false) : planEnd W H xs a b ns = .tuple #[.agg (words zero20).toArray, .bool false] := by
  rw [planEnd, planV, h]; rfl
theorem planEnd_yes {W H a b : Int} {xs ns : List Int} (h : goodP W H xs a b ns = true) : planEnd W H xs a b ns = .tuple #[.agg (words (planL W H xs ns)).toArray, .bool true] := by
  rw [planEnd, planV, h]; rfl

set_option maxRecDepth 100000 in
set_option maxHeartbeats 4000000 in
theorem planOf_any (W H : Int) (A : Option Addr) (n c : Nat) (a b : Int) (A2 : Option Addr) (n2 c2 : Nat) (xs ns : List Int) (w : World) (ha : Rd w A n xs) (hp : Rd w A2 n2 ns) :
    Calls Try.prog 42 #[pzv W H A n c a b A2 n2 c2] w fun e w' => e = .returned (planEnd W H xs a b ns) ∧ Below w.heap.size w w' := by
  have HL := Lib.hid hp.1
  have n9 := hp.2.1
  have RH0 := Lib.hid ha; have RN0 := Lib.hid hp
  clear ha hp
  have hmf : ∀ (fn : Fn) (first cap : Array Value) (w : World), (Instr.makeFunc fn first cap).run Try.prog w = .ok (.func fn first cap) w := fun _ _ _ _ => rfl
  obtain ⟨W2, hW2⟩ : ∃ W2, W2 = ((w.alloc (.cells #[.int .i64 W, .int .i64 H, .slice A n c, .int .i64 a, .int .i64 b, .slice A2 n2 c2] 34)).alloc (.cells #[.int .u64 0, .int .u64 0, .int .u64 0, .int .u64 0, .int .u64 0, .int .u64 0, .int .u64 0, .int .u64 0, .int .u64 0, .int .u64 0, .int .u64 0, .int .u64 0, .int .u64 0, .int .u64 0, .int .u64 0, .int .u64 0, .int .u64 0, .int .u64 0, .int .u64 0, .int .u64 0] 63)).alloc (.cells #[.bool false] 4) := ⟨_, rfl⟩
  have BP := Lib.hid (show Bx W2 (w.heap.size) #[.int .i64 W, .int .i64 H, .slice A n c, .int .i64 a, .int .i64 b, .slice A2 n2 c2] 34 by rw [hW2]; exact ((Bx.new (w) #[.int .i64 W, .int .i64 H, .slice A n c, .int .i64 a, .int .i64 b, .slice A2 n2 c2] 34).keep (below_new (Below.refl _ _) (.cells #[.int .u64 0, .int .u64 0, .int .u64 0, .int .u64 0, .int .u64 0, .int .u64 0, .int .u64 0, .int .u64 0, .int .u64 0, .int .u64 0, .int .u64 0, .int .u64 0, .int .u64 0, .int .u64 0, .int .u64 0, .int .u64 0, .int .u64 0, .int .u64 0, .int .u64 0, .int .u64 0] 63))).keep (below_new (Below.refl _ _) (.cells #[.bool false] 4)))
  have BR := Lib.hid (show Bx W2 (w.heap.size + 1) #[.int .u64 0, .int .u64 0, .int .u64 0, .int .u64 0, .int .u64 0, .int .u64 0, .int .u64 0, .int .u64 0, .int .u64 0, .int .u64 0, .int .u64 0, .int .u64 0, .int .u64 0, .int .u64 0, .int .u64 0, .int .u64 0, .int .u64 0, .int .u64 0, .int .u64 0, .int .u64 0] 63 by rw [hW2]; have := (Bx.new (w.alloc (.cells #[.int .i64 W, .int .i64 H, .slice A n c, .int .i64 a, .int .i64 b, .slice A2 n2 c2] 34)) #[.int .u64 0, .int .u64 0, .int .u64 0, .int .u64 0, .int .u64 0, .int .u64 0, .int .u64 0, .int .u64 0, .int .u64 0, .int .u64 0, .int .u64 0, .int .u64 0, .int .u64 0, .int .u64 0, .int .u64 0, .int .u64 0, .int .u64 0, .int .u64 0, .int .u64 0, .int .u64 0] 63).keep (below_new (Below.refl _ _) (.cells #[.bool false] 4)); simpa using this)
  have BO := Lib.hid (show Bx W2 (w.heap.size + 1 + 1) #[.bool false] 4 by rw [hW2]; have := Bx.new ((w.alloc (.cells #[.int .i64 W, .int .i64 H, .slice A n c, .int .i64 a, .int .i64 b, .slice A2 n2 c2] 34)).alloc (.cells #[.int .u64 0, .int .u64 0, .int .u64 0, .int .u64 0, .int .u64 0, .int .u64 0, .int .u64 0, .int .u64 0, .int .u64 0, .int .u64 0, .int .u64 0, .int .u64 0, .int .u64 0, .int .u64 0, .int .u64 0, .int .u64 0, .int .u64 0, .int .u64 0, .int .u64 0, .int .u64 0] 63)) #[.bool false] 4; simpa using this)
  have B := Lib.hid (show Below w.heap.size w W2 by rw [hW2]; repeat (first | exact Below.refl _ _ | refine below_new ?_ _))
  have HSZ := Lib.hid (show w.heap.size + 3 ≤ W2.heap.size by rw [hW2]; simp)
  obtain ⟨ob, hob⟩ : ∃ ob, ob = w.heap.size + 1 + 1 := ⟨_, rfl⟩
  obtain ⟨rb, hrb⟩ : ∃ rb, rb = w.heap.size + 1 := ⟨_, rfl⟩
  have p0 : W2.cell? ⟨w.heap.size, 0, none⟩ = some (.int .i64 W) := BP.out.cell rfl
  have p1 : W2.cell? ⟨w.heap.size, 1, none⟩ = some (.int .i64 H) := BP.out.cell rfl
  have p2 : W2.cell? ⟨w.heap.size, 2, none⟩ = some (.slice A n c) := BP.out.cell rfl
  have p3 : W2.cell? ⟨w.heap.size, 3, none⟩ = some (.int .i64 a) := BP.out.cell rfl
  have p4 : W2.cell? ⟨w.heap.size, 4, none⟩ = some (.int .i64 b) := BP.out.cell rfl
  go_enter_defers Try.func42, Try.ntmps42
  go_wp2_with fail
  rw [← hW2]
  clear hW2
  rw [← hob, ← hrb]
  rw [← hrb] at BR
  rw [← hob] at BO
  have hrb1 : w.heap.size < rb := by omega
  have hob1 : rb < ob := by omega
  clear hob hrb
  replace BR := Lib.hid (show Bx W2 rb (words zero20).toArray 63 from BR.out)
  by_cases hpb : pzB W H xs a b = true
  · clear p0 p1 p2 p3 p4
    refine (isPuzzleBoard_any _ _ _ _ _ _ _ _ _ (RH0.out.keep B.out)).mono ?_
    rw [hpb]
    rintro e wv ⟨rfl, hb⟩
    replace BP := Lib.hid (BP.out.keep hb)
    replace BR := Lib.hid (BR.out.keep hb)
    replace BO := Lib.hid (BO.out.keep hb)
    replace HSZ := Lib.hid (Nat.le_trans HSZ.out hb.size)
    replace B := Lib.hid (below_next B.out hb)
    clear hb
    have ht : twoV W H xs a b = true := by simp only [pzB, Bool.and_eq_true] at hpb; exact hpb.1
    have HNN := Lib.hid (good_N (two_gK ht))
    obtain ⟨N, hWH⟩ : ∃ N : Nat, W * H = (N : Int) := ⟨(W * H).toNat, by have := HNN.out; omega⟩
    have hN64 : N ≤ 64 := by have := HNN.out; omega
    have p0 : wv.cell? ⟨w.heap.size, 0, none⟩ = some (.int .i64 W) := BP.out.cell rfl
    have p1 : wv.cell? ⟨w.heap.size, 1, none⟩ = some (.int .i64 H) := BP.out.cell rfl
    have p5 : wv.cell? ⟨w.heap.size, 5, none⟩ = some (.slice A2 n2 c2) := BP.out.cell rfl
    by_cases hl : n2 = N
    · subst hl
      have hf : (cellsL W H xs).length ≤ 16 := by simp only [pzB, fewB, Bool.and_eq_true, decide_eq_true_eq] at hpb; exact hpb.2
      have HPB := Lib.hid hpb
      clear hpb
      have p2 : wv.cell? ⟨w.heap.size, 2, none⟩ = some (.slice A n c) := BP.out.cell rfl
      have p3 : wv.cell? ⟨w.heap.size, 3, none⟩ = some (.int .i64 a) := BP.out.cell rfl
      have p4 : wv.cell? ⟨w.heap.size, 4, none⟩ = some (.int .i64 b) := BP.out.cell rfl
      go_wp2_with fail
      clear p0 p1 p2 p3 p4 p5
      refine (laidOut_any W H A n c a b A2 n2 c2 xs ns _ (RH0.out.keep B.out) (RN0.out.keep B.out) (two_gK ht) hf hWH.symm).mono ?_
      rintro e wx ⟨hle, hb⟩
      replace BP := Lib.hid (BP.out.keep hb)
      replace BR := Lib.hid (BR.out.keep hb)
      replace BO := Lib.hid (BO.out.keep hb)
      replace HSZ := Lib.hid (Nat.le_trans HSZ.out hb.size)
      replace B := Lib.hid (below_next B.out hb)
      clear hb
      rcases hle with ⟨hT, rfl⟩ | ⟨hF, v, rfl⟩
      · have HT := Lib.hid (show goodP W H xs a b ns = true by rw [goodP, HPB.out, show decide ((ns.length : Int) = W * H) = true by simp; rw [HL.out]; omega, hT]; rfl)
        clear hT
        have hg := grown_setRow wx rb (words (planL W H xs ns)).toArray
        have h3 := BO.out.grown hg (by simp; omega)
        have h4 := BR.out.row (words (planL W H xs ns)).toArray
        have f0 : (wx.setRow rb (words (planL W H xs ns)).toArray).frozen? ⟨ob, 0, none⟩ = false := h3.frozen 0
        have c0 : (wx.setRow rb (words (planL W H xs ns)).toArray).cell? ⟨ob, 0, none⟩ = some (.bool false) := h3.cell rfl
        have hb := B.out.grown hg B.out.size (fun g9 h9 => by injection h9 with h9; omega)
        have h5 := h3.set 0 (.bool true)
        have hg2 : (wx.setRow rb (words (planL W H xs ns)).toArray).grownBy ((wx.setRow rb (words (planL W H xs ns)).toArray).setCell ⟨ob, 0, none⟩ (.bool true)) (some ob) := grownSet1 _ _ _
        have h6 := h4.grown hg2 (by simp; omega)
        have h7 := hb.grown hg2 hb.size (fun g9 h9 => by injection h9 with h9; omega)
        have H5 := Lib.hid h5; have H6 := Lib.hid h6; have H7 := Lib.hid h7
        clear h3 h4 h5 h6 h7 hb hg hg2
        go_wp2_with (first | refine wpList_store_row rfl 63 _ _ rfl rb _ (words (planL W H xs ns)).toArray rfl rfl BR.out (by rw [infoPlan]; simp [words, planL_len]) (by simp [words, planL_len, zero20_len]) (all_oneCell_toArray (words_one _)) ?_)
        refine leaves_cons (f := 72) (args := #[.pointer (some ⟨rb, 0, none⟩), .pointer (some ⟨ob, 0, none⟩)]) (by simp) (by simp [go_sem]) ?_
        refine (door_idle rb ob _).mono ?_
        rintro e u' w'' ⟨rfl, rfl, rfl⟩
        exact ⟨_, results_row_bool rfl _ _ rb ob (words (planL W H xs ns)) true rfl rfl H6.out H5.out (by simp [words, planL_len]), by rw [planEnd_yes HT.out], H7.out⟩
      · go_wp2
        refine leaves_cons (f := 72) (args := #[.pointer (some ⟨rb, 0, none⟩), .pointer (some ⟨ob, 0, none⟩)]) (by simp) (by simp [go_sem]) ?_
        refine (door_panicking rb ob w.heap.size v [] _ BR.out BO.out (by omega) (by omega) (by omega) B.out.size).mono ?_
        rintro e u' w'' ⟨rfl, rfl, h6, h5, h7⟩
        exact ⟨_, results_row_bool rfl _ _ rb ob (words zero20) false rfl rfl h6 h5 rfl, by rw [planEnd_no (goodP_no hF)], B.out.trans h7⟩
    · have hne : ((n2 : Int) != (N : Int)) = true := by simp; omega
      have HNE := Lib.hid (show goodP W H xs a b ns = false by rw [goodP, show decide ((ns.length : Int) = W * H) = false by simp; rw [HL.out]; omega]; simp)
      have hg := grown_setRow wv rb (words zero20).toArray
      have h3 := BO.out.grown hg (by simp; omega)
      have h4 := BR.out.row (words zero20).toArray
      have f0 : (wv.setRow rb (words zero20).toArray).frozen? ⟨ob, 0, none⟩ = false := h3.frozen 0
      have c0 : (wv.setRow rb (words zero20).toArray).cell? ⟨ob, 0, none⟩ = some (.bool false) := h3.cell rfl
      have hb := B.out.grown hg B.out.size (fun g9 h9 => by injection h9 with h9; omega)
      have h5 := h3.set 0 (.bool false)
      have hg2 : (wv.setRow rb (words zero20).toArray).grownBy ((wv.setRow rb (words zero20).toArray).setCell ⟨ob, 0, none⟩ (.bool false)) (some ob) := grownSet1 _ _ _
      have h6 := h4.grown hg2 (by simp; omega)
      have h7 := hb.grown hg2 hb.size (fun g9 h9 => by injection h9 with h9; omega)
      have H5 := Lib.hid h5; have H6 := Lib.hid h6; have H7 := Lib.hid h7
      clear h3 h4 h5 h6 h7 hb hg hg2
      go_wp2_with (first | refine wpList_store_row rfl 63 _ _ rfl rb _ (words zero20).toArray rfl rfl BR.out (by rw [infoPlan]; simp [words, zero20_len]) (by rfl) (all_oneCell_toArray (words_one _)) ?_)
      refine leaves_cons (f := 72) (args := #[.pointer (some ⟨rb, 0, none⟩), .pointer (some ⟨ob, 0, none⟩)]) (by simp) (by simp [go_sem]) ?_
      refine (door_idle rb ob _).mono ?_
      rintro e u' w'' ⟨rfl, rfl, rfl⟩
      exact ⟨_, results_row_bool rfl _ _ rb ob (words zero20) false rfl rfl H6.out H5.out rfl, by rw [planEnd_no (HNE.out)], H7.out⟩
  · clear p0 p1 p2 p3 p4
    refine (isPuzzleBoard_any _ _ _ _ _ _ _ _ _ (RH0.out.keep B.out)).mono ?_
    rw [show pzB W H xs a b = false by simpa using hpb]
    rintro e wv ⟨rfl, hb⟩
    replace BP := Lib.hid (BP.out.keep hb)
    replace BR := Lib.hid (BR.out.keep hb)
    replace BO := Lib.hid (BO.out.keep hb)
    replace HSZ := Lib.hid (Nat.le_trans HSZ.out hb.size)
    replace B := Lib.hid (below_next B.out hb)
    clear hb
    have HNE := Lib.hid (show goodP W H xs a b ns = false by rw [goodP, show pzB W H xs a b = false by simpa using hpb]; rfl)
    have hg := grown_setRow wv rb (words zero20).toArray
    have h3 := BO.out.grown hg (by simp; omega)
    have h4 := BR.out.row (words zero20).toArray
    have f0 : (wv.setRow rb (words zero20).toArray).frozen? ⟨ob, 0, none⟩ = false := h3.frozen 0
    have c0 : (wv.setRow rb (words zero20).toArray).cell? ⟨ob, 0, none⟩ = some (.bool false) := h3.cell rfl
    have hb := B.out.grown hg B.out.size (fun g9 h9 => by injection h9 with h9; omega)
    have h5 := h3.set 0 (.bool false)
    have hg2 : (wv.setRow rb (words zero20).toArray).grownBy ((wv.setRow rb (words zero20).toArray).setCell ⟨ob, 0, none⟩ (.bool false)) (some ob) := grownSet1 _ _ _
    have h6 := h4.grown hg2 (by simp; omega)
    have h7 := hb.grown hg2 hb.size (fun g9 h9 => by injection h9 with h9; omega)
    have H5 := Lib.hid h5; have H6 := Lib.hid h6; have H7 := Lib.hid h7
    clear h3 h4 h5 h6 h7 hb hg hg2
    go_upto_region 3 with fail
    go_wp2_with (first | refine wpList_store_row rfl 63 _ _ rfl rb _ (words zero20).toArray rfl rfl BR.out (by rw [infoPlan]; simp [words, zero20_len]) (by rfl) (all_oneCell_toArray (words_one _)) ?_)
    refine leaves_cons (f := 72) (args := #[.pointer (some ⟨rb, 0, none⟩), .pointer (some ⟨ob, 0, none⟩)]) (by simp) (by simp [go_sem]) ?_
    refine (door_idle rb ob _).mono ?_
    rintro e u' w'' ⟨rfl, rfl, rfl⟩
    exact ⟨_, results_row_bool rfl _ _ rb ob (words zero20) false rfl rfl H6.out H5.out rfl, by rw [planEnd_no (HNE.out)], H7.out⟩


end Go.Proofs.Ytkdfilhiljfanaa
