/-
  Contracts: the plan of a puzzle's solutions.
-/
import Derived.Test.YtkdfilhiljfanaaA2
import Derived.Test.YtkdfilhiljfanaaE0
import Derived.WalkLawsBesides
namespace Go.Proofs.Ytkdfilhiljfanaa
open Go.RowKit


theorem infoPlan : (Try.prog.info? 63).map (·.size) = some 20 := by kernel_rfl
def zero20 : List Nat := List.replicate 20 0
theorem zero20_len : zero20.length = 20 := rfl
theorem words_get {L : List Nat} {j v : Nat} (h : L[j]? = some v) : (words L).toArray[j]? = some (.int .u64 (v : Int)) := by
  rw [List.getElem?_toArray, words, List.getElem?_map, h]; rfl
theorem words_set (L : List Nat) (j v : Nat) : (words L).toArray.setIfInBounds j (.int .u64 (v : Int)) = (words (L.set j v)).toArray := by simp [words, List.map_set]
theorem Bx.range {w : World} {g : Nat} {cs : List Value} {T : TypeId} (h : Bx w g cs.toArray T) : w.rangeAt g 0 cs := fun j v hv => by
  rw [Nat.zero_add]; exact h.cell (by simpa using hv)
theorem Bx.row {w : World} {g : Nat} {vs : Array Value} {T : TypeId} (h : Bx w g vs T) (c' : Array Value) : Bx (w.setRow g c') g c' T := heap_setRow h
theorem wpList_store_row {P : Program} {ops : Array Oper} {rest : List Oper} {op : Oper} {a : Act} {w : World} {Q : Exit → Act → World → Prop} (hgd : op.guard = none) (ty : TypeId) (x y : Operand) (ho : op.op = .store ty x y)
    (g : Nat) (c cs : Array Value) (hx : a.eval x = .pointer (some ⟨g, 0, none⟩)) (hy : a.eval y = .agg cs) (hb : Bx w g c ty) (hi : (P.info? ty).map (·.size) = some cs.size) (hc : c.size = cs.size) (h1 : cs.all (·.oneCell') = true)
    (h : wpList P ops Q rest (a.put op.dst undef) (w.setRow g cs)) : wpList P ops Q (op :: rest) a w :=
  wpList_plain hgd fun _ hK => by
    have hr := run_storeVar_row (P := P) w g ty ty c cs hb hi hc h1
    unfold Oper.wp execOp
    simp only [ho, hx, hy, Instr.storeAt, Instr.sureAddr, Sem.run_bind, Sem.run_pure, Result.andThen_ok, hr]
    exact hK _ _ h
theorem withZ_any (c : Nat) (hc : c < 64) (w : World) :
    Calls Try.prog 84 #[.int .u64 0, .int .i64 (c : Int)] w fun e w' => e = .returned (.int .u64 ((2 ^ c : Nat) : Int)) ∧ w = w' := by
  have h := withS_any 0 c (by omega) hc w
  rw [Nat.zero_or] at h
  exact h
/-- How laidOut ends. -/
def LaidEnd (W H : Int) (xs ns : List Int) (e : Ending) : Prop :=
  (numsFrom W H xs ((cellsL W H xs).length : Int) ns 0 ns = true ∧ e = .returned (.agg (words (planL W H xs ns)).toArray)) ∨
  (numsFrom W H xs ((cellsL W H xs).length : Int) ns 0 ns = false ∧ ∃ v, e = .panicked [{ v := .iface 88 (.int .i64 v), recovered := false }])

set_option maxRecDepth 100000 in
set_option maxHeartbeats 4000000 in
theorem laidOut_any (W H : Int) (A : Option Addr) (n c : Nat) (a b : Int) (A2 : Option Addr) (n2 c2 : Nat) (xs ns : List Int) (w : World) (ha : Rd w A n xs) (hp : Rd w A2 n2 ns) (hg : goodB W H xs = true) (hf : (cellsL W H xs).length ≤ 16) (hn : (n2 : Int) = W * H) :
    Calls Try.prog 73 #[pzv W H A n c a b A2 n2 c2] w fun e w' => LaidEnd W H xs ns e ∧ Below w.heap.size w w' := by
  have HL := Lib.hid hp.1
  have n9 := hp.2.1
  have HG := Lib.hid hg
  have HNN := Lib.hid (good_N hg)
  have hn64 : n2 ≤ 64 := by have := HNN.out; omega
  have RH0 := Lib.hid ha; have RN0 := Lib.hid hp
  clear ha hp hg
  obtain ⟨W2, hW2⟩ : ∃ W2, W2 = ((w.alloc (.cells #[.int .i64 W, .int .i64 H, .slice A n c, .int .i64 a, .int .i64 b, .slice A2 n2 c2] 34)).alloc (.cells #[.int .u64 0, .int .u64 0, .int .u64 0, .int .u64 0, .int .u64 0, .int .u64 0, .int .u64 0, .int .u64 0, .int .u64 0, .int .u64 0, .int .u64 0, .int .u64 0, .int .u64 0, .int .u64 0, .int .u64 0, .int .u64 0, .int .u64 0, .int .u64 0, .int .u64 0, .int .u64 0] 63)).alloc (.cells #[.int .u64 0, .int .u64 0, .int .u64 0, .int .u64 0, .int .u64 0, .int .u64 0, .int .u64 0, .int .u64 0, .int .u64 0, .int .u64 0, .int .u64 0, .int .u64 0, .int .u64 0, .int .u64 0, .int .u64 0, .int .u64 0, .int .u64 0, .int .u64 0, .int .u64 0, .int .u64 0] 63) := ⟨_, rfl⟩
  have BP := Lib.hid (show Bx W2 (w.heap.size) #[.int .i64 W, .int .i64 H, .slice A n c, .int .i64 a, .int .i64 b, .slice A2 n2 c2] 34 by rw [hW2]; exact ((Bx.new (w) #[.int .i64 W, .int .i64 H, .slice A n c, .int .i64 a, .int .i64 b, .slice A2 n2 c2] 34).keep (below_new (Below.refl _ _) (.cells #[.int .u64 0, .int .u64 0, .int .u64 0, .int .u64 0, .int .u64 0, .int .u64 0, .int .u64 0, .int .u64 0, .int .u64 0, .int .u64 0, .int .u64 0, .int .u64 0, .int .u64 0, .int .u64 0, .int .u64 0, .int .u64 0, .int .u64 0, .int .u64 0, .int .u64 0, .int .u64 0] 63))).keep (below_new (Below.refl _ _) (.cells #[.int .u64 0, .int .u64 0, .int .u64 0, .int .u64 0, .int .u64 0, .int .u64 0, .int .u64 0, .int .u64 0, .int .u64 0, .int .u64 0, .int .u64 0, .int .u64 0, .int .u64 0, .int .u64 0, .int .u64 0, .int .u64 0, .int .u64 0, .int .u64 0, .int .u64 0, .int .u64 0] 63)))
  have BR := Lib.hid (show Bx W2 (w.heap.size + 1) #[.int .u64 0, .int .u64 0, .int .u64 0, .int .u64 0, .int .u64 0, .int .u64 0, .int .u64 0, .int .u64 0, .int .u64 0, .int .u64 0, .int .u64 0, .int .u64 0, .int .u64 0, .int .u64 0, .int .u64 0, .int .u64 0, .int .u64 0, .int .u64 0, .int .u64 0, .int .u64 0] 63 by rw [hW2]; have := (Bx.new (w.alloc (.cells #[.int .i64 W, .int .i64 H, .slice A n c, .int .i64 a, .int .i64 b, .slice A2 n2 c2] 34)) #[.int .u64 0, .int .u64 0, .int .u64 0, .int .u64 0, .int .u64 0, .int .u64 0, .int .u64 0, .int .u64 0, .int .u64 0, .int .u64 0, .int .u64 0, .int .u64 0, .int .u64 0, .int .u64 0, .int .u64 0, .int .u64 0, .int .u64 0, .int .u64 0, .int .u64 0, .int .u64 0] 63).keep (below_new (Below.refl _ _) (.cells #[.int .u64 0, .int .u64 0, .int .u64 0, .int .u64 0, .int .u64 0, .int .u64 0, .int .u64 0, .int .u64 0, .int .u64 0, .int .u64 0, .int .u64 0, .int .u64 0, .int .u64 0, .int .u64 0, .int .u64 0, .int .u64 0, .int .u64 0, .int .u64 0, .int .u64 0, .int .u64 0] 63)); simpa using this)
  have BM := Lib.hid (show Bx W2 (w.heap.size + 1 + 1) #[.int .u64 0, .int .u64 0, .int .u64 0, .int .u64 0, .int .u64 0, .int .u64 0, .int .u64 0, .int .u64 0, .int .u64 0, .int .u64 0, .int .u64 0, .int .u64 0, .int .u64 0, .int .u64 0, .int .u64 0, .int .u64 0, .int .u64 0, .int .u64 0, .int .u64 0, .int .u64 0] 63 by rw [hW2]; have := Bx.new ((w.alloc (.cells #[.int .i64 W, .int .i64 H, .slice A n c, .int .i64 a, .int .i64 b, .slice A2 n2 c2] 34)).alloc (.cells #[.int .u64 0, .int .u64 0, .int .u64 0, .int .u64 0, .int .u64 0, .int .u64 0, .int .u64 0, .int .u64 0, .int .u64 0, .int .u64 0, .int .u64 0, .int .u64 0, .int .u64 0, .int .u64 0, .int .u64 0, .int .u64 0, .int .u64 0, .int .u64 0, .int .u64 0, .int .u64 0] 63)) #[.int .u64 0, .int .u64 0, .int .u64 0, .int .u64 0, .int .u64 0, .int .u64 0, .int .u64 0, .int .u64 0, .int .u64 0, .int .u64 0, .int .u64 0, .int .u64 0, .int .u64 0, .int .u64 0, .int .u64 0, .int .u64 0, .int .u64 0, .int .u64 0, .int .u64 0, .int .u64 0] 63; simpa using this)
  have B := Lib.hid (show Below w.heap.size w W2 by rw [hW2]; repeat (first | exact Below.refl _ _ | refine below_new ?_ _))
  have HSZ := Lib.hid (show w.heap.size + 3 ≤ W2.heap.size by rw [hW2]; simp)
  obtain ⟨mb, hmb⟩ : ∃ mb, mb = w.heap.size + 1 + 1 := ⟨_, rfl⟩
  obtain ⟨rb, hrb⟩ : ∃ rb, rb = w.heap.size + 1 := ⟨_, rfl⟩
  have p0 : W2.cell? ⟨w.heap.size, 0, none⟩ = some (.int .i64 W) := BP.out.cell rfl
  have p1 : W2.cell? ⟨w.heap.size, 1, none⟩ = some (.int .i64 H) := BP.out.cell rfl
  have p2 : W2.cell? ⟨w.heap.size, 2, none⟩ = some (.slice A n c) := BP.out.cell rfl
  go_enter Try.func73, Try.ntmps73
  go_wp2_with fail
  rw [← hW2]
  clear hW2
  rw [← hmb, ← hrb]
  rw [← hrb] at BR
  rw [← hmb] at BM
  have hrb1 : w.heap.size < rb := by omega
  have hmb1 : rb < mb := by omega
  clear hmb hrb
  replace BR := Lib.hid (show Bx W2 rb (words zero20).toArray 63 from BR.out)
  replace BM := Lib.hid (show Bx W2 mb (words zero20).toArray 63 from BM.out)
  clear p0 p1 p2
  refine (cellsThere_any _ _ _ _ _ _ _ (RH0.out.keep B.out) HG.out).mono ?_
  rintro e wv ⟨A', M, c', rfl, own, hb⟩
  have HM := Lib.hid own.len
  clear own
  replace BP := Lib.hid (BP.out.keep hb)
  replace BR := Lib.hid (BR.out.keep hb)
  replace BM := Lib.hid (BM.out.keep hb)
  replace HSZ := Lib.hid (Nat.le_trans HSZ.out hb.size)
  replace B := Lib.hid (below_next B.out hb)
  clear hb
  have hM : M ≤ 16 := by rw [← HM.out]; exact hf
  clear hf
  have p5 : wv.cell? ⟨w.heap.size, 5, none⟩ = some (.slice A2 n2 c2) := BP.out.cell rfl
  go_wp2
  clear p5
  go_loopw [4, 17] (fun s4 i wr => ∃ k : Nat, k ≤ n2 ∧ i = .int .i64 k ∧ s4 = .int .u64 (gapsN W H xs ns k : Int) ∧ numsFrom W H xs ((cellsL W H xs).length : Int) ns 0 ns = numsFrom W H xs ((cellsL W H xs).length : Int) ns k (ns.drop k) ∧ Bx wr w.heap.size #[.int .i64 W, .int .i64 H, .slice A n c, .int .i64 a, .int .i64 b, .slice A2 n2 c2] 34 ∧ Bx wr rb (words zero20).toArray 63 ∧ Bx wr mb (words (placeL ns k)).toArray 63 ∧ Below w.heap.size w wr) (fun _ i _ => n2 - (intOf i).toNat)
  case atStart => exact ⟨0, Nat.zero_le _, rfl, rfl, rfl, BP.out, BR.out, BM.out, B.out⟩
  case round =>
    clear BP BR BM B HSZ
    obtain ⟨k, hk, rfl, rfl, hfrom, bp, br, bm, hbw⟩ := hrel
    have HF := Lib.hid hfrom; have BP := Lib.hid bp; have BR := Lib.hid br; have BM := Lib.hid bm; have B := Lib.hid hbw
    clear hfrom bp br bm hbw
    have hk64 : k < 64 ∨ k = 64 := by omega
    have hG9 : gapsN W H xs ns k < 18446744073709551616 := gapsN_lt (by omega)
    by_cases hlt : k < n2
    · obtain ⟨bb, oo, x, rfl, hg1, hx, x0⟩ := (RN0.out.keep B.out).at_ hlt
      have HX := Lib.hid hx
      have HD := Lib.hid (numsFrom_drop (W := W) (H := H) (xs := xs) (m := ((cellsL W H xs).length : Int)) hx)
      clear hx
      replace hk64 : k < 64 := by omega
      have hk0 : (0 : Int) ≤ (k : Int) := by omega
      have p0 : wr.cell? ⟨w.heap.size, 0, none⟩ = some (.int .i64 W) := BP.out.cell rfl
      have p1 : wr.cell? ⟨w.heap.size, 1, none⟩ = some (.int .i64 H) := BP.out.cell rfl
      have p2 : wr.cell? ⟨w.heap.size, 2, none⟩ = some (.slice A n c) := BP.out.cell rfl
      cases h2 : hasB W H xs (k : Int)
      · by_cases h0 : x = 0
        · subst h0
          go_wp2_with fail
          clear p0 p1 p2
          refine (isThere_any _ _ _ _ _ (k : Int) _ _ (RH0.out.keep B.out) HG.out).mono ?_
          rw [h2]
          rintro e wy ⟨rfl, hb⟩
          replace BP := Lib.hid (BP.out.keep hb)
          replace BR := Lib.hid (BR.out.keep hb)
          replace BM := Lib.hid (BM.out.keep hb)
          replace B := Lib.hid (below_next B.out hb)
          clear hb
          go_wp2
          go_roundw
          case rel => exact ⟨k + 1, by omega, by go_num, by rw [gapsN_no (fun h9 => by rw [h2] at h9; cases h9.2)], by rw [HF.out, HD.out, (show numOk W H xs ((cellsL W H xs).length : Int) ns k 0 = true by rw [numOk, HM.out, show inB 0 0 (M : Int) = true from inB_iff.2 (by omega)]; first | rfl | simp)]; rfl, BP.out, BR.out, by rw [placeL_skip HX.out]; exact BM.out, B.out⟩
          case measure => simp [intOf]; omega
        · have hne0 : (x == 0) = false := by simpa using h0
          go_wp2_with fail
          clear p0 p1 p2
          refine (isThere_any _ _ _ _ _ (k : Int) _ _ (RH0.out.keep B.out) HG.out).mono ?_
          rw [h2]
          rintro e wy ⟨rfl, hb⟩
          replace BP := Lib.hid (BP.out.keep hb)
          replace BR := Lib.hid (BR.out.keep hb)
          replace BM := Lib.hid (BM.out.keep hb)
          replace B := Lib.hid (below_next B.out hb)
          clear hb
          go_wp2
          (try go_ret)
          exact ⟨rfl, .inr ⟨by rw [HF.out, HD.out, (show numOk W H xs ((cellsL W H xs).length : Int) ns k x = false by rw [numOk, HM.out, h2, show (x == 0) = false by simpa using h0]; first | rfl | simp)]; rfl, _, rfl⟩, B.out⟩
      · by_cases h0 : x = 0
        · subst h0
          go_wp2_with fail
          clear p0 p1 p2
          refine (isThere_any _ _ _ _ _ (k : Int) _ _ (RH0.out.keep B.out) HG.out).mono ?_
          rw [h2]
          rintro e wy ⟨rfl, hb⟩
          replace BP := Lib.hid (BP.out.keep hb)
          replace BR := Lib.hid (BR.out.keep hb)
          replace BM := Lib.hid (BM.out.keep hb)
          replace B := Lib.hid (below_next B.out hb)
          clear hb
          go_wp2_with fail
          refine (withS_any (gapsN W H xs ns k) k hG9 hk64 _).mono ?_
          rintro e wz ⟨rfl, rfl⟩
          go_wp2
          go_roundw
          case rel => exact ⟨k + 1, by omega, by go_num, by rw [gapsN_yes HX.out h2], by rw [HF.out, HD.out, (show numOk W H xs ((cellsL W H xs).length : Int) ns k 0 = true by rw [numOk, HM.out, show inB 0 0 (M : Int) = true from inB_iff.2 (by omega)]; first | rfl | simp)]; rfl, BP.out, BR.out, by rw [placeL_skip HX.out]; exact BM.out, B.out⟩
          case measure => simp [intOf]; omega
        · have hne0 : (x == 0) = false := by simpa using h0
          by_cases h1 : x < 1
          · go_wp2_with fail
            clear p0 p1 p2
            refine (isThere_any _ _ _ _ _ (k : Int) _ _ (RH0.out.keep B.out) HG.out).mono ?_
            rw [h2]
            rintro e wy ⟨rfl, hb⟩
            replace BP := Lib.hid (BP.out.keep hb)
            replace BR := Lib.hid (BR.out.keep hb)
            replace BM := Lib.hid (BM.out.keep hb)
            replace B := Lib.hid (below_next B.out hb)
            clear hb
            go_wp2
            (try go_ret)
            exact ⟨rfl, .inr ⟨by rw [HF.out, HD.out, (show numOk W H xs ((cellsL W H xs).length : Int) ns k x = false by rw [numOk, HM.out, show inB x 0 (M : Int) = false by rw [Bool.eq_false_iff]; intro h9; have := inB_iff.1 h9; omega]; first | rfl | simp)]; rfl, _, rfl⟩, B.out⟩
          · by_cases h3 : (M : Int) < x
            · go_wp2_with fail
              clear p0 p1 p2
              refine (isThere_any _ _ _ _ _ (k : Int) _ _ (RH0.out.keep B.out) HG.out).mono ?_
              rw [h2]
              rintro e wy ⟨rfl, hb⟩
              replace BP := Lib.hid (BP.out.keep hb)
              replace BR := Lib.hid (BR.out.keep hb)
              replace BM := Lib.hid (BM.out.keep hb)
              replace B := Lib.hid (below_next B.out hb)
              clear hb
              go_wp2
              (try go_ret)
              exact ⟨rfl, .inr ⟨by rw [HF.out, HD.out, (show numOk W H xs ((cellsL W H xs).length : Int) ns k x = false by rw [numOk, HM.out, show inB x 0 (M : Int) = false by rw [Bool.eq_false_iff]; intro h9; have := inB_iff.1 h9; omega]; first | rfl | simp)]; rfl, _, rfl⟩, B.out⟩
            · obtain ⟨p, rfl⟩ : ∃ p : Nat, x = (p : Int) + 1 := ⟨(x - 1).toNat, by omega⟩
              have hp20 : p < 20 := by omega
              have hp0 : (0 : Int) ≤ (p : Int) := by omega
              have hp2 : (p : Int) < 20 := by omega
              go_wp2_with fail
              clear p0 p1 p2
              refine (isThere_any _ _ _ _ _ (k : Int) _ _ (RH0.out.keep B.out) HG.out).mono ?_
              rw [h2]
              rintro e wy ⟨rfl, hb⟩
              replace BP := Lib.hid (BP.out.keep hb)
              replace BR := Lib.hid (BR.out.keep hb)
              replace BM := Lib.hid (BM.out.keep hb)
              replace B := Lib.hid (below_next B.out hb)
              clear hb
              have m0 : wy.cell? ⟨mb, p, none⟩ = some (.int .u64 (placeN ns k p : Int)) := BM.out.cell (words_get (placeL_at hp20))
              by_cases hz : placeN ns k p = 0
              · rw [hz] at m0
                have f0 : wy.frozen? ⟨mb, p, none⟩ = false := BM.out.frozen p
                go_wp2_with fail
                obtain ⟨v, hv⟩ : ∃ v : Nat, v = 2 ^ k := ⟨_, rfl⟩
                refine (withZ_any k hk64 _).mono ?_
                rw [← hv]
                rintro e wz ⟨rfl, rfl⟩
                have HV := Lib.hid hv
                clear hv
                obtain ⟨W5, hW5⟩ : ∃ W5, W5 = wy.setCell ⟨mb, p, none⟩ (.int .u64 (v : Int)) := ⟨_, rfl⟩
                have hg : wy.grownBy (wy.setCell ⟨mb, p, none⟩ (.int .u64 (v : Int))) (some mb) := grownSet1 wy ⟨mb, p, none⟩ (.int .u64 (v : Int))
                have BM5 := Lib.hid (BM.out.set p (.int .u64 (v : Int)))
                rw [words_set, show (placeL ns k).set p v = placeL ns (k + 1) by rw [← placeL_set HX.out, hz, Nat.zero_or, HV.out]] at BM5
                rw [← hW5] at hg BM5
                replace BP := Lib.hid (BP.out.grown hg (by simp; omega)); replace BR := Lib.hid (BR.out.grown hg (by simp; omega))
                replace BM := BM5
                replace B := Lib.hid (B.out.grown hg B.out.size (fun g9 h9 => by injection h9 with h9; omega))
                clear BM5 hg
                go_wp2
                rw [← hW5]
                clear hW5 m0 f0
                go_roundw
                case rel => exact ⟨k + 1, by omega, by go_num, by rw [gapsN_no (fun h9 => by rw [HX.out] at h9; have := Option.some.inj h9.1; omega)], by rw [HF.out, HD.out, (show numOk W H xs ((cellsL W H xs).length : Int) ns k ((p : Int) + 1) = true by rw [numOk, HM.out, show inB ((p : Int) + 1) 0 (M : Int) = true from inB_iff.2 (by omega), h2, placeN_zero.1 hz, show (((p : Int) + 1) == 0) = false by simp; omega]; first | rfl | simp)]; rfl, BP.out, BR.out, by rw [show placeL ns (k + 1) = placeL ns (k + 1) from rfl]; exact BM.out, B.out⟩
                case measure => simp [intOf]; omega
              · have hzn : ((placeN ns k p : Int) != 0) = true := by simpa using hz
                go_wp2
                (try go_ret)
                exact ⟨rfl, .inr ⟨by rw [HF.out, HD.out, (show numOk W H xs ((cellsL W H xs).length : Int) ns k ((p : Int) + 1) = false by rw [numOk, HM.out, h2, show (ns.take k).contains ((p : Int) + 1) = true by rw [← Bool.not_eq_false]; exact fun h9 => hz (placeN_zero.2 h9), show (((p : Int) + 1) == 0) = false by simp; omega]; first | rfl | simp)]; rfl, _, rfl⟩, B.out⟩
    · obtain rfl : n2 = k := by omega
      have HT := Lib.hid (show numsFrom W H xs ((cellsL W H xs).length : Int) ns 0 ns = true by rw [HF.out, List.drop_of_length_le (by rw [HL.out]; omega)]; rfl)
      obtain ⟨gg, hgg⟩ : ∃ gg, gg = gapsN W H xs ns n2 := ⟨_, rfl⟩
      rw [← hgg]
      have HGG := Lib.hid hgg
      clear hgg hG9 HF
      go_wp2
      go_loopw [70] (fun i wq => ∃ j : Nat, j ≤ M ∧ i = .int .i64 j ∧ Bx wq w.heap.size #[.int .i64 W, .int .i64 H, .slice A n c, .int .i64 a, .int .i64 b, .slice A2 n2 c2] 34 ∧ Bx wq rb (words zero20).toArray 63 ∧ Bx wq mb (words (fillP gg (placeL ns n2) j)).toArray 63 ∧ Below w.heap.size w wq) (fun i _ => M - (intOf i).toNat)
      case atStart => exact ⟨0, Nat.zero_le _, rfl, BP.out, BR.out, BM.out, B.out⟩
      case round =>
        clear BP BR BM B
        obtain ⟨j, hj, rfl, bp, br, bm, hbw⟩ := hrel
        have BP := Lib.hid bp; have BR := Lib.hid br; have BM := Lib.hid bm; have B := Lib.hid hbw
        clear bp br bm hbw
        by_cases hlt2 : j < M
        · have hj20 : j < 20 := by omega
          have hj0 : (0 : Int) ≤ (j : Int) := by omega
          have hj2 : (j : Int) < 20 := by omega
          have HP := Lib.hid (placeL_at (ns := ns) (k := n2) hj20)
          have m0 : wr.cell? ⟨mb, j, none⟩ = some (.int .u64 (placeN ns n2 j : Int)) := BM.out.cell (words_get (fillP_at HP.out))
          by_cases hz : placeN ns n2 j = 0
          · rw [hz] at m0
            have f0 : wr.frozen? ⟨mb, j, none⟩ = false := BM.out.frozen j
            go_wp2
            obtain ⟨W5, hW5⟩ : ∃ W5, W5 = wr.setCell ⟨mb, j, none⟩ (.int .u64 (gg : Int)) := ⟨_, rfl⟩
            have hg : wr.grownBy (wr.setCell ⟨mb, j, none⟩ (.int .u64 (gg : Int))) (some mb) := grownSet1 wr ⟨mb, j, none⟩ (.int .u64 (gg : Int))
            replace BM := Lib.hid (BM.out.set j (.int .u64 (gg : Int)))
            rw [words_set, show (fillP gg (placeL ns n2) j).set j gg = fillP gg (placeL ns n2) (j + 1) by rw [fillP_next HP.out, if_pos hz]] at BM
            rw [← hW5] at hg BM
            replace BP := Lib.hid (BP.out.grown hg (by simp; omega)); replace BR := Lib.hid (BR.out.grown hg (by simp; omega))
            replace B := Lib.hid (B.out.grown hg B.out.size (fun g9 h9 => by injection h9 with h9; omega))
            rw [← hW5]
            clear hg hW5 m0 f0
            go_roundw
            case rel => exact ⟨j + 1, by omega, by go_num, BP.out, BR.out, by rw [show fillP gg (placeL ns n2) (j + 1) = fillP gg (placeL ns n2) (j + 1) from rfl]; exact BM.out, B.out⟩
            case measure => simp [intOf]; omega
          · have hzn : ((placeN ns n2 j : Int) == 0) = false := by simpa using hz
            go_wp2
            clear m0
            go_roundw
            case rel => exact ⟨j + 1, by omega, by go_num, BP.out, BR.out, by rw [fillP_same HP.out hz]; exact BM.out, B.out⟩
            case measure => simp [intOf]; omega
        · obtain rfl : j = M := by omega
          have e9 : fillP gg (placeL ns n2) j = planL W H xs ns := by rw [planL, HM.out, HL.out, HGG.out]
          rw [e9] at BM
          clear e9
          go_wp2_with (first | refine wpList_load_mid rfl 63 _ rfl mb 0 rfl _ _ (Bx.range BM.out) Try.underlying63 rfl (by rw [infoPlan]; simp [words, planL_len]) ?_ | refine wpList_store_row rfl 63 _ _ rfl rb _ _ rfl rfl BR.out (by rw [infoPlan]; simp [words, planL_len]) (by simp [words, planL_len, zero20_len]) (all_oneCell_toArray (words_one _)) ?_)
          have hrow := BR.out.row (words (planL W H xs ns)).toArray
          have hgr := grown_setRow wr rb (words (planL W H xs ns)).toArray
          exact bodyPost_ret (results_cell_row rfl _ _ rb _ _ _ _ rfl hrow Try.underlying63 rfl (by rw [infoPlan]; simp [words, planL_len])) rfl ⟨.inl ⟨HT.out, rfl⟩, B.out.grown hgr B.out.size (fun g9 h9 => by injection h9 with h9; omega)⟩

end Go.Proofs.Ytkdfilhiljfanaa
