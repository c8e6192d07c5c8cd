/-
  Contracts: slices.Repeat of one number.
-/
import Derived.Test.YtmmlhbfekjbdpaaDoorB2
import Derived.Test.YtmmlhbfekjbdpaaDoorApp
import Derived.Test.YtmmlhbfekjbdpaaDoorShelf
import Derived.Laws.CopyOwn
import Derived.Deep.MidRow
import Derived.IntWalk
import Derived.Deep.RegionHeld3
namespace Go.Proofs.YtmmlhbfekjbdpaaDoor
open Go.RowKit

/-- The row in the midst of its filling. -/
def rowR (v : Int) (n N : Nat) : List Value := List.replicate n (.int .i64 v) ++ List.replicate (N - n) (.int .i64 0)
theorem rowR_len (v : Int) {n N : Nat} (h : n ≤ N) : (rowR v n N).length = N := by simp [rowR]; omega
theorem rowR_full (v : Int) (N : Nat) : rowR v N N = (List.replicate N v).map (Value.int .i64) := by simp [rowR]
theorem rowR_copy (v : Int) {n k N : Nat} : (rowR v n N).take n ++ (List.replicate k (.int .i64 v) ++ (rowR v n N).drop (n + k)) = rowR v (n + k) N := by
  unfold rowR
  rw [List.take_append, List.drop_append]
  simp
  rw [← List.append_assoc, List.replicate_append_replicate]
  congr 2; omega
theorem rowR_at (v : Int) {n N j : Nat} (h : j < n) : (rowR v n N)[j]? = some (.int .i64 v) := by
  unfold rowR; rw [List.getElem?_append_left (by simpa using h)]; simp [h]

theorem row_of_made {w : World} {base g N : Nat} {e : TypeId} (v : Int) (h : w.ownsRow base e 1 (.slice (some ⟨g, 0, none⟩) N N) N (madeCells (Value.cells (.int .i64 0)) (N * 1)).toList) :
    w.heap[g]? = some (.cells (rowR v 0 N).toArray e (0, 0)) := by
  rcases h.2 with ⟨hv, _⟩ | ⟨g', cap, cur, hv, _, hg, _, _, hs, ht⟩
  · cases hv
  · injection hv with h1 h2 h3
    injection h1 with h1
    injection h1 with h1
    subst h1; subst h3
    have e1 : (madeCells (Value.cells (.int .i64 0)) (N * 1)).toList = List.replicate N (.int .i64 0) := by rw [Nat.mul_one]; exact toList_madeCells_one (.int .i64 0) N
    rw [e1, List.take_of_length_le (by simp [hs])] at ht
    rw [hg]
    congr 2
    rw [← Array.toList_inj, ht]
    simp [rowR]
theorem own_of_row {w : World} {lo g N : Nat} {e : TypeId} {L : List Int} (hl : L.length = N) (hlo : lo ≤ g) (hN : N ≤ maxLen) (h : w.heap[g]? = some (.cells (L.map (Value.int .i64)).toArray e (0, 0))) :
    OwnI e w lo (some ⟨g, 0, none⟩) N N L :=
  ⟨by simp [hl], .inr ⟨g, N, _, rfl, hlo, h, Nat.le_refl _, hN, by simp [hl], by simp [hl, List.take_of_length_le]⟩⟩

theorem heap_setRowF {W : World} {g : Nat} {cs c' : Array Value} {t : TypeId} (h : W.heap[g]? = some (.cells cs t (0, 0))) : (W.setRow g c').heap[g]? = some (.cells c' t (0, 0)) := by
  simp [World.setRow, Array.getElem?_modify, h]

theorem wpList_copy_rowR {P : Program} {w : World} {ops : Array Oper} {rest : List Oper} {o : Oper} {a : Act} {Q : Exit → Act → World → Prop} (hgd : o.guard = none) (d s : Operand) (T : TypeId)
    (ho : o.op = .call { callee := .builtin .copy, args := #[d, s], argTypes := #[T, T] }) (elem : TypeId) (hu : P.underlying T = some (.slice elem)) (hsz : (P.info? elem).map (·.size) = some 1)
    (v : Int) (g n k N dLen dCap : Nat) (ad : Addr) (sLen sCap : Nat) (hd : a.eval d = .slice (some ⟨g, n, none⟩) dLen dCap) (hs : a.eval s = .slice (some ad) sLen sCap) (t : TypeId)
    (hg : w.heap[g]? = some (.cells (rowR v n N).toArray t (0, 0))) (hk : k = Nat.min sLen dLen) (hsrc : ∀ j, j < k → w.cell? (ad.add j) = some (.int .i64 v)) (hfit : n + k ≤ N) (lo : Nat) (w0 : World) (hb : Below lo w0 w) (hlo : lo ≤ g)
    (h : ∀ w', w'.heap[g]? = some (.cells (rowR v (n + k) N).toArray t (0, 0)) → Below lo w0 w' → wpList P ops Q rest (a.put o.dst (goInt k)) w') : wpList P ops Q (o :: rest) a w := by
  have hl : (List.replicate k (Value.int .i64 v)).length = k := by simp
  refine wpList_copy_own hgd d s T T ho elem hu hsz g n dLen dCap ad sLen sCap hd hs _ t hg (List.replicate k (.int .i64 v)) (by rw [hl, hk]) (fun j u hj => ?_) (by rw [hl]; simp [rowR_len v (show n ≤ N by omega)]; omega) (fun u hu => by rw [List.eq_of_mem_replicate hu]; rfl) ?_
  · have hjk : j < k := by have := (List.getElem?_eq_some_iff.1 hj).1; simpa using this
    rw [List.getElem?_replicate, if_pos hjk] at hj
    injection hj with hj
    rw [← hj]; exact hsrc j hjk
  · rw [hl]
    refine h _ ?_ (below_setRow hb hlo _)
    have h1 := heap_setRowF (c' := ((rowR v n N).toArray.toList.take n ++ (List.replicate k (Value.int .i64 v) ++ (rowR v n N).toArray.toList.drop (n + k))).toArray) hg
    rw [show (rowR v n N).toArray.toList.take n ++ (List.replicate k (Value.int .i64 v) ++ (rowR v n N).toArray.toList.drop (n + k)) = rowR v (n + k) N from rowR_copy v] at h1 ⊢
    exact h1

theorem step_copy_rowR {P : Program} {w : World} {ops : Array Oper} {o : Oper} {a : Act} {K : Act → World → Prop} {Q : Exit → Act → World → Prop} {E0 : Prop} (hgd : o.guard = none) (d s : Operand) (T : TypeId)
    (ho : o.op = .call { callee := .builtin .copy, args := #[d, s], argTypes := #[T, T] }) (elem : TypeId) (hu : P.underlying T = some (.slice elem)) (hsz : (P.info? elem).map (·.size) = some 1)
    (v : Int) (g n k N dLen dCap : Nat) (ad : Addr) (sLen sCap : Nat) (hd : a.eval d = .slice (some ⟨g, n, none⟩) dLen dCap) (hs : a.eval s = .slice (some ad) sLen sCap) (t : TypeId)
    (hg : w.heap[g]? = some (.cells (rowR v n N).toArray t (0, 0))) (hk : k = Nat.min sLen dLen) (hsrc : ∀ j, j < k → w.cell? (ad.add j) = some (.int .i64 v)) (hfit : n + k ≤ N) (lo : Nat) (w0 : World) (hb : Below lo w0 w) (hlo : lo ≤ g)
    (h : ∀ w', w'.heap[g]? = some (.cells (rowR v (n + k) N).toArray t (0, 0)) → Below lo w0 w' → K (a.put o.dst (goInt k)) w') : if Region.wanted o (yielded ops a.tmps) = true then Oper.wp P o a w K Q else E0 := by
  have hl : (List.replicate k (Value.int .i64 v)).length = k := by simp
  have hw : Region.wanted o (yielded ops a.tmps) = true := by simp [Region.wanted, hgd]
  rw [if_pos hw]
  have hrun := run_copy_row (P := P) w T T o.type elem g n dLen dCap ad sLen sCap (rowR v n N).toArray t (List.replicate k (.int .i64 v)) hu hsz hg (by rw [hl, hk]) (fun j u hj => by
    have hjk : j < k := by have := (List.getElem?_eq_some_iff.1 hj).1; simpa using this
    rw [List.getElem?_replicate, if_pos hjk] at hj
    injection hj with hj
    rw [← hj]; exact hsrc j hjk) (by rw [hl]; simp [rowR_len v (show n ≤ N by omega)]; omega) (fun u hu => by rw [List.eq_of_mem_replicate hu]; rfl)
  unfold Oper.wp
  simp only [execOp, ho, resolve, invoke, builtin, Sem.run_bind, Sem.run_pure, Result.andThen_ok, List.map_toArray, List.map_cons, List.map_nil, hd, hs, hrun]
  rw [hl, List.append_assoc]
  rw [show (rowR v n N).toArray.toList.take n ++ (List.replicate k (Value.int .i64 v) ++ (rowR v n N).toArray.toList.drop (n + k)) = rowR v (n + k) N from rowR_copy v]
  exact h _ (heap_setRowF hg) (below_setRow hb hlo _)

theorem rowR_src {w : World} {g n k N : Nat} {v : Int} {t : TypeId} (h : w.heap[g]? = some (.cells (rowR v n N).toArray t (0, 0))) (hk : k ≤ n) : ∀ j, j < k → w.cell? ((⟨g, 0, none⟩ : Addr).add j) = some (.int .i64 v) := fun j hj => by
  rw [Addr.add_mid, Nat.zero_add, cell_of_row _ _ _ _ _ _ h, List.getElem?_toArray, rowR_at v (show j < n by omega)]
theorem rowR_fit {n N : Nat} (h : n ≤ N) : n + Nat.min n (N - n) ≤ N := by show n + min n (N - n) ≤ N; omega
theorem rowR_more {n N : Nat} (h1 : 1 ≤ n) (h2 : n < N) : 1 ≤ Nat.min n (N - n) := by
  have h : n.min (N - n) = n ∨ n.min (N - n) = N - n := by
    rcases Nat.le_total n (N - n) with h | h
    · exact .inl (Nat.min_eq_left h)
    · exact .inr (Nat.min_eq_right h)
  omega

set_option maxRecDepth 100000 in
set_option maxHeartbeats 4000000 in
theorem repeat_any (A : Option Addr) (v : Int) (N : Nat) (w : World) (ha : Rd w A 1 [v]) (hN1 : 1 ≤ N) (hN2 : N ≤ 64) :
    Calls Tryd.prog 57 #[.slice A 1 1, .int .i64 (N : Int)] w fun e w' => ∃ g, e = .returned (.slice (some ⟨g, 0, none⟩) N N) ∧ OwnI 3 w' w.heap.size (some ⟨g, 0, none⟩) N N (List.replicate N v) ∧ Below w.heap.size w w' := by
  obtain ⟨i0, hi, hz0, hz1, hz2⟩ := info_parts infoI
  have HI := Lib.hid hi; have HZ0 := Lib.hid hz0; have HZ1 := Lib.hid hz1; have HZ2 := Lib.hid hz2
  clear hi hz0 hz1 hz2
  obtain ⟨b0, o0, x, rfl, hg0, hx, hx0⟩ := ha.at_ (show 0 < 1 by decide)
  obtain rfl : v = x := by simpa using hx
  go_enter Tryd.func57, Tryd.ntmps57
  go_wp2_with fail
  have hM := Tryd.bits_Mul 1 N (by omega) (by omega) w
  rw [show 1 * N / 18446744073709551616 = 0 by omega, show 1 * N % 18446744073709551616 = N by omega] at hM
  refine hM.mono ?_
  rintro e w1 ⟨rfl, rfl⟩
  clear hM
  have hszI : (Tryd.prog.info? 3).map (·.size) = some 1 := by rw [HI.out]; exact congrArg some HZ1.out
  have hu := Tryd.underlying22
  have B0 := Below.refl w1.heap.size w1
  go_wp2_with (first
    | (at_make; refine wpList_make_full _ rfl _ _ 22 rfl w1.heap.size 3 i0 (.int .i64 0) 1 Tryd.underlying22 HI.out HZ0.out HZ1.out .i64 .i64 _ _ N rfl rfl rfl rfl (by rw [HZ2.out]; omega) (by unfold maxLen; omega) (by first | omega | (simp; omega) | simp) ?_; intro w2 hown1 hg1; have hrow := row_of_made v hown1; have hb2 : Below w1.heap.size w1 w2 := ⟨hg1.os, hg1.tape, hg1.output, hg1.size, fun i hi => hg1.block i hi (by simp)⟩; have hs2 := cell_keep hx0 hg0 hb2; have hs3 : ∀ j, j < 1 → w2.cell? ((⟨b0, o0, none⟩ : Addr).add j) = some (.int .i64 v) := (by intro j hj; obtain rfl : j = 0 := (by omega); rw [Addr.add_mid]; exact hs2))
    | (refine wpList_copy_rowR rfl (.tmp 31) (.tmp 32) 22 rfl 3 hu hszI v w1.heap.size 0 1 N N N ⟨b0, o0, none⟩ 1 1 rfl rfl 3 hrow (Nat.min_eq_left hN1).symm hs3 (by omega) w1.heap.size w1 hb2 (Nat.le_refl _) ?_; intro w3 hr3 hb3))
  have HR := Lib.hid hr3; have HB3 := Lib.hid hb3
  clear hr3 hb3 hrow hb2 hs2 hs3 hown1 hg1 hx0 hg0 hx ha
  obtain ⟨g, hg⟩ : ∃ g, g = w1.heap.size := ⟨_, rfl⟩
  rw [← hg] at HR HB3 ⊢
  have HGG := Lib.hid hg
  clear hg
  go_loopw [8] (fun s wr => ∃ n : Nat, 1 ≤ n ∧ n ≤ N ∧ s = .int .i64 n ∧ wr.heap[g]? = some (.cells (rowR v n N).toArray 3 (0, 0)) ∧ Below g w1 wr) (fun s _ => N - (intOf s).toNat)
  case atStart => exact ⟨1, by omega, hN1, rfl, HR.out, HB3.out⟩
  case round =>
    obtain ⟨n, hn1, hn, rfl, hrow, hbw⟩ := hrel
    have HROW := Lib.hid hrow; have HB := Lib.hid hbw
    clear hrow hbw
    by_cases hlt : n < N
    · have hne : ¬ N = n := by omega
      obtain ⟨k, hk⟩ : ∃ k, k = Nat.min n (N - n) := ⟨_, rfl⟩
      have HK := Lib.hid hk
      have hk1 : 1 ≤ k := by rw [hk]; exact rowR_more hn1 hlt
      have hfit : n + k ≤ N := by rw [hk]; exact rowR_fit hn
      have hkn : k ≤ n := by rw [hk]; exact Nat.min_le_left _ _
      clear hk
      have hsum : IntKind.i64.wrap ((n : Int) + (k : Int)) = (n : Int) + (k : Int) := IntWalk.i64_in _ (by omega)
      go_wp2
      go_region_held3 (fun _ => True) (first | exact trivial)
        (first | (refine step_copy_rowR rfl (.tmp 41) (.tmp 44) 22 rfl 3 hu hszI v g n k N (N - n) (N - n) ⟨g, 0, none⟩ n N rfl rfl 3 HROW.out HK.out (rowR_src HROW.out hkn) hfit g w1 (HB.out.drew) (Nat.le_refl _) ?_; intro w4 hr4 hb4))
      all_goals go_wp2
      all_goals go_roundw
      all_goals (first | exact ⟨n + k, by omega, hfit, by simp, hr4, hb4⟩ | (clear hsum; simp [intOf]; omega))
    · have hnN : n = N := by omega
      subst hnN
      go_wp2
      go_ret
      exact ⟨g, rfl, own_of_row (by simp) (by rw [HGG.out]; exact Nat.le_refl _) (by unfold maxLen; omega) (by rw [← rowR_full]; exact HROW.out), by rw [← HGG.out]; exact HB.out⟩
end Go.Proofs.YtmmlhbfekjbdpaaDoor
