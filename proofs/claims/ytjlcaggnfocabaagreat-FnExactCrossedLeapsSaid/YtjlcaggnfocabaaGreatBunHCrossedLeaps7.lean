/-
  Contracts: lists of lines, in the program.
  Contracts: lines around, crossings counted, spots inside: in the program.
  Contracts: IsPath.
  Pure: the number of one bits of a word as bits.OnesCount64 counts them, and of a set of cells.
  Contracts: sets of cells as bits.
  Contracts: whether all of these cells are there (slices.ContainsFunc with a closure), a leaper on a board with these cells.
  Contracts: walks.
  Pure: walks that have no cell in common, their tails turned.
  Contracts: areWalks: walks that have no cell in common.
  Contracts: paths and leaps on a board; DoLeapsCross.
  Memory words: a map from ints that the call owns, read value by value.
-/
import Derived.Test.YtjlcaggnfocabaaGreatBunHCrossedLeaps5
import Derived.Test.YtjlcaggnfocabaaGreatBunHCrossedLeaps6
import Derived.Deep.RegionHeld3
import Derived.Test.YtjlcaggnfocabaaGreatBunHCrossedLeaps1
import Derived.Laws.Bits64b
import Derived.Laws.Bits128
import Derived.Test.YtjlcaggnfocabaaGreatBunHCrossedLeaps2
import Derived.Test.YtjlcaggnfocabaaGreatBunHCrossedLeaps4
import Derived.Maps.Views
import Derived.Maps.OwnOps
namespace Go.Proofs.YtjlcaggnfocabaaGreat
open Go.RowKit

def encN (l : Ln) : List Value := [.int .i64 l.1.1, .int .i64 l.1.2, .int .i64 l.2.1, .int .i64 l.2.2]
theorem encN_len (l : Ln) : (encN l).length = 4 := rfl
theorem encN_one (l : Ln) : ∀ u ∈ encN l, u.oneCell' = true := fun u hu => by simp [encN] at hu; rcases hu with rfl | rfl | rfl | rfl <;> rfl
theorem infoN : (Tryz.prog.info? 52).map (fun i => (i.zero, i.size, i.bytes)) = some (some (.agg #[.int .i64 0, .int .i64 0, .int .i64 0, .int .i64 0]), 4, 32) := by kernel_rfl
abbrev lnv' (l : Ln) : Value := lnv l.1.1 l.1.2 l.2.1 l.2.2

set_option maxRecDepth 100000 in
set_option maxHeartbeats 2000000 in
theorem lineOf_any (W H : Int) (A : Option Addr) (n c : Nat) (p q : Int) (w : World) (hW : 1 ≤ W ∧ W ≤ 8) (hp : 0 ≤ p ∧ p ≤ 64) (hq : 0 ≤ q ∧ q ≤ 64) :
    Calls Tryz.prog 24 #[brd W H A n c, .int .i64 p, .int .i64 q] w fun e w' => e = .returned (lnv' (lnL W p q)) ∧ Below w.heap.size w w' := by
  have HW := Lib.hid hW
  have HMIN := Lib.hid (show 0 ≤ min p q ∧ min p q ≤ 64 by omega)
  have HMAX := Lib.hid (show 0 ≤ max p q ∧ max p q ≤ 64 by omega)
  clear hW hp hq
  show Calls Tryz.prog 24 #[brd W H A n c, .int .i64 p, .int .i64 q] w fun e w' => e = .returned (lnv (min p q % W) (min p q / W) (max p q % W) (max p q / W)) ∧ Below w.heap.size w w'
  have hmin : (if p < q then p else q) = min p q := by rw [Int.min_def]; split <;> split <;> omega
  have hmin2 : (if q < p then q else p) = min p q := by rw [Int.min_def]; split <;> split <;> omega
  have hmax : (if p < q then q else p) = max p q := by rw [Int.max_def]; split <;> split <;> omega
  have hmax2 : (if q < p then p else q) = max p q := by rw [Int.max_def]; split <;> split <;> omega
  obtain ⟨W2, hW2⟩ : ∃ W2, W2 = (w.alloc (.cells #[.int .i64 W, .int .i64 H, .slice A n c] 31)).alloc (.cells #[.int .i64 0, .int .i64 0, .int .i64 0, .int .i64 0] 52) := ⟨_, rfl⟩
  have a0 : W2.cell? ⟨w.heap.size, 0, none⟩ = some (.int .i64 W) := by rw [hW2]; go_simp
  have a1 : W2.cell? ⟨w.heap.size, 1, none⟩ = some (.int .i64 H) := by rw [hW2]; go_simp
  have a2 : W2.cell? ⟨w.heap.size, 2, none⟩ = some (.slice A n c) := by rw [hW2]; go_simp
  have al : w.heap.size < W2.heap.size := by rw [hW2]; simp; omega
  have tl : w.heap.size + 1 < W2.heap.size := by rw [hW2]; simp
  have t0 : W2.cell? ⟨w.heap.size + 1, 0, none⟩ = some (.int .i64 0) := by rw [hW2]; go_simp
  have z0 : W2.frozen? ⟨w.heap.size + 1, 0, none⟩ = false := by rw [hW2]; go_simp
  have t1 : W2.cell? ⟨w.heap.size + 1, 1, none⟩ = some (.int .i64 0) := by rw [hW2]; go_simp
  have z1 : W2.frozen? ⟨w.heap.size + 1, 1, none⟩ = false := by rw [hW2]; go_simp
  have t2 : W2.cell? ⟨w.heap.size + 1, 2, none⟩ = some (.int .i64 0) := by rw [hW2]; go_simp
  have z2 : W2.frozen? ⟨w.heap.size + 1, 2, none⟩ = false := by rw [hW2]; go_simp
  have t3 : W2.cell? ⟨w.heap.size + 1, 3, none⟩ = some (.int .i64 0) := by rw [hW2]; go_simp
  have z3 : W2.frozen? ⟨w.heap.size + 1, 3, none⟩ = false := by rw [hW2]; go_simp
  have B := Lib.hid (show Below w.heap.size w W2 by rw [hW2]; exact below_new (below_new (Below.refl _ _) _) _)
  go_enter Tryz.func24, Tryz.ntmps24
  go_wp2_with fail
  rw [← hW2]
  clear hW2
  refine wp_region_held_drew (S := fun w' => w'.cell? ⟨w.heap.size, 0, none⟩ = some (.int .i64 W) ∧ w'.cell? ⟨w.heap.size, 1, none⟩ = some (.int .i64 H) ∧ w'.cell? ⟨w.heap.size, 2, none⟩ = some (.slice A n c)) (by kernel_rfl) ?_ (fun hHeld => ?_)
  · (try dsimp only)
    exact ⟨a0, a1, a2⟩
  refine wpAnyH_take (i := 0) (oi := ⟨_, _, _, _, _, _⟩) (v := ?_) rfl (by kernel_rfl) (by kernel_rfl) (by kernel_rfl) (fun _ _ _ h => h) (Or.inl ⟨by rfl, ?_⟩) (by assumption) ?_
  rotate_left
  · intro w hSw
    (try dsimp only at hSw)
    go_simp
    (try with_reducible rfl)
  (try simp only [Act.put, List.setIfInBounds_toArray, List.set_cons_zero, List.set_cons_succ])
  refine wpAnyH_take (i := 1) (oi := ⟨_, _, _, _, _, _⟩) (v := ?_) rfl (by kernel_rfl) (by kernel_rfl) (by kernel_rfl) (fun _ _ _ h => h) (Or.inl ⟨by rfl, ?_⟩) (by assumption) ?_
  rotate_left
  · intro w hSw
    (try dsimp only at hSw)
    go_simp
    (try with_reducible rfl)
  (try simp only [Act.put, List.setIfInBounds_toArray, List.set_cons_zero, List.set_cons_succ])
  refine wpAnyH_take (i := 2) (oi := ⟨_, _, _, _, _, _⟩) (v := ?_) rfl (by kernel_rfl) (by kernel_rfl) (by kernel_rfl) (fun _ _ _ h => h) (Or.inl ⟨by rfl, ?_⟩) (by assumption) ?_
  rotate_left
  · intro w hSw
    (try dsimp only at hSw)
    go_simp
    (try with_reducible rfl)
  (try simp only [Act.put, List.setIfInBounds_toArray, List.set_cons_zero, List.set_cons_succ])
  refine wpAnyH_take (i := 3) (oi := ⟨_, _, _, _, _, _⟩) (v := ?_) rfl (by kernel_rfl) (by kernel_rfl) (by kernel_rfl) (fun _ _ _ h => h) (Or.inl ⟨by rfl, ?_⟩) (by assumption) ?_
  rotate_left
  · intro w hSw
    (try dsimp only at hSw)
    go_simp
    (try with_reducible rfl)
  (try simp only [Act.put, List.setIfInBounds_toArray, List.set_cons_zero, List.set_cons_succ])
  refine wpAnyH_take (i := 5) (oi := ⟨_, _, _, _, _, _⟩) (v := ?_) rfl (by kernel_rfl) (by kernel_rfl) (by kernel_rfl) (fun _ _ _ h => h) (Or.inl ⟨by rfl, ?_⟩) (by assumption) ?_
  rotate_left
  · intro w hSw
    (try dsimp only at hSw)
    go_simp
    (try with_reducible rfl)
  (try simp only [Act.put, List.setIfInBounds_toArray, List.set_cons_zero, List.set_cons_succ])
  refine wpAnyH_take (i := 6) (oi := ⟨_, _, _, _, _, _⟩) (v := ?_) rfl (by kernel_rfl) (by kernel_rfl) (by kernel_rfl) (fun _ _ _ h => h) (Or.inl ⟨by rfl, ?_⟩) (by assumption) ?_
  rotate_left
  · intro w hSw
    (try dsimp only at hSw)
    go_simp
    (try with_reducible rfl)
  (try simp only [Act.put, List.setIfInBounds_toArray, List.set_cons_zero, List.set_cons_succ])
  refine wpAnyH_take (i := 7) (oi := ⟨_, _, _, _, _, _⟩) (v := ?_) rfl (by kernel_rfl) (by kernel_rfl) (by kernel_rfl) (fun _ _ _ h => h) (Or.inl ⟨by rfl, ?_⟩) (by assumption) ?_
  rotate_left
  · intro w hSw
    (try dsimp only at hSw)
    go_simp
    (try with_reducible rfl)
  (try simp only [Act.put, List.setIfInBounds_toArray, List.set_cons_zero, List.set_cons_succ])
  refine wpAnyH_take (i := 8) (oi := ⟨_, _, _, _, _, _⟩) (v := ?_) rfl (by kernel_rfl) (by kernel_rfl) (by kernel_rfl) (fun _ _ _ h => h) (Or.inl ⟨by rfl, ?_⟩) (by assumption) ?_
  rotate_left
  · intro w hSw
    (try dsimp only at hSw)
    go_simp
    (try with_reducible rfl)
  (try simp only [Act.put, List.setIfInBounds_toArray, List.set_cons_zero, List.set_cons_succ])
  refine wpAnyH_ready (rs := [4]) (by kernel_rfl) (by simp) ?_
  refine AllReadyH.cons (o := ⟨_, _, _, _, _, _⟩) rfl (fun K hK => ?_) AllReadyH.nil
  go_simp
  (go_at_call 44; refine (spotOf_any W H A n c _ _ HW.out HMIN.out).mono ?_; rintro e wx ⟨rfl, hb⟩; (repeat (first | replace hb := below_undrew hb | replace hb := below_undrewN hb)); replace z0 := ((bcell hb).2 _ 0 tl).trans z0; replace t0 := cell_keep t0 tl hb; replace z1 := ((bcell hb).2 _ 1 tl).trans z1; replace t1 := cell_keep t1 tl hb; replace z2 := ((bcell hb).2 _ 2 tl).trans z2; replace t2 := cell_keep t2 tl hb; replace z3 := ((bcell hb).2 _ 3 tl).trans z3; replace t3 := cell_keep t3 tl hb; replace tl := lt_keep tl hb; replace a0 := cell_keep a0 al hb; replace a1 := cell_keep a1 al hb; replace a2 := cell_keep a2 al hb; replace al := lt_keep al hb; replace B := Lib.hid (below_next B.out hb); clear hb)
  (try go_wp2_with fail)
  refine hK.out _ _ ?_ (fun hHeld => ?_)
  · (try dsimp only)
    exact ⟨a0, a1, a2⟩
  clear hK K
  (try simp only [Act.put, List.setIfInBounds_toArray, List.set_cons_zero, List.set_cons_succ])
  refine wpAnyH_ready (rs := [9]) (by kernel_rfl) (by simp) ?_
  refine AllReadyH.cons (o := ⟨_, _, _, _, _, _⟩) rfl (fun K hK => ?_) AllReadyH.nil
  go_simp
  (go_at_call 44; refine (spotOf_any W H A n c _ _ HW.out HMAX.out).mono ?_; rintro e wx ⟨rfl, hb⟩; (repeat (first | replace hb := below_undrew hb | replace hb := below_undrewN hb)); replace z0 := ((bcell hb).2 _ 0 tl).trans z0; replace t0 := cell_keep t0 tl hb; replace z1 := ((bcell hb).2 _ 1 tl).trans z1; replace t1 := cell_keep t1 tl hb; replace z2 := ((bcell hb).2 _ 2 tl).trans z2; replace t2 := cell_keep t2 tl hb; replace z3 := ((bcell hb).2 _ 3 tl).trans z3; replace t3 := cell_keep t3 tl hb; replace tl := lt_keep tl hb; replace a0 := cell_keep a0 al hb; replace a1 := cell_keep a1 al hb; replace a2 := cell_keep a2 al hb; replace al := lt_keep al hb; replace B := Lib.hid (below_next B.out hb); clear hb)
  (try go_wp2_with fail)
  refine hK.out _ _ ?_ (fun hHeld => ?_)
  · (try dsimp only)
    exact ⟨a0, a1, a2⟩
  clear hK K
  (try simp only [Act.put, List.setIfInBounds_toArray, List.set_cons_zero, List.set_cons_succ])
  refine wpAnyH_take (i := 10) (oi := ⟨_, _, _, _, _, _⟩) (v := ?_) rfl (by kernel_rfl) (by kernel_rfl) (by kernel_rfl) (fun _ _ _ h => h) (Or.inl ⟨by rfl, ?_⟩) (by assumption) ?_
  rotate_left
  · intro w hSw
    (try dsimp only at hSw)
    go_simp
    (try with_reducible rfl)
  (try simp only [Act.put, List.setIfInBounds_toArray, List.set_cons_zero, List.set_cons_succ])
  refine wpAnyH_ready (rs := [11]) (by kernel_rfl) (by simp) ?_
  refine AllReadyH.cons (o := ⟨_, _, _, _, _, _⟩) rfl (fun K hK => ?_) AllReadyH.nil
  go_simp
  skip
  (try go_wp2_with fail)
  refine hK.out _ _ ?_ (fun hHeld => ?_)
  · (try dsimp only)
    exact ⟨by go_simp, by go_simp, by go_simp⟩
  clear hK K
  (try simp only [Act.put, List.setIfInBounds_toArray, List.set_cons_zero, List.set_cons_succ])
  refine wpAnyH_done (by kernel_rfl) ?_ _
  go_wp2
  exact bodyPost_ret (v := lnv (min p q % W) (min p q / W) (max p q % W) (max p q / W)) (by simp [results, Tryz.results24, go_sem, t0, t1, t2, t3]) rfl ⟨rfl, (by repeat (first | exact B.out | refine below_drewN ?_ _ | refine Below.drew ?_ | refine Below.setCell ?_ (by simp) _))⟩

theorem step_appK {α : Type} {enc : α → List Value} {k : Nat} {P : Program} {w : World} {ops : Array Oper} {o : Oper} {a : Act} {K : Act → World → Prop} {Q : Exit → Act → World → Prop} {E0 : Prop} (hgd : o.guard = none) (s x : Operand) (T E : TypeId)
    (ho : o.op = .call { callee := .builtin .append, args := #[s, x], argTypes := #[T, T] }) (i0 : TypeInfo) (z : Value) (bytes : Nat)
    (hT : P.underlying T = some (.slice E)) (hi : P.info? E = some i0) (hz0 : i0.zero = some z) (hz1 : i0.size = k) (hz2 : i0.bytes = bytes) (hzs : z.cells.size = k) (hk0 : 0 < k) (hby : bytes ≤ 64)
    (hk : ∀ x, (enc x).length = k) (h1 : ∀ x, ∀ u ∈ enc x, u.oneCell' = true)
    (lo : Nat) (A : Option Addr) (n c : Nat) (xs : List α) (ad : Addr) (m cy : Nat) (ys : List α) (hs : a.eval s = .slice A n c) (hown : OwnK enc k E w lo A n c xs) (hx : a.eval x = .slice (some ad) m cy) (hm : ys.length = m)
    (hy : ∀ j u, (ys.flatMap enc)[j]? = some u → w.cell? (ad.add j) = some u) (hn : n + m ≤ 1000000) (hlo : lo ≤ w.heap.size)
    (h : ∀ A' c' w', OwnK enc k E w' lo A' (n + m) c' (xs ++ ys) → Below lo w w' → K (a.put o.dst (.slice A' (n + m) c')) w') :
    if Region.wanted o (yielded ops a.tmps) = true then Oper.wp P o a w K Q else E0 := by
  have hw : Region.wanted o (yielded ops a.tmps) = true := by simp [Region.wanted, hgd]
  rw [if_pos hw]
  refine wp_append_own w s x T ho lo E i0 z k bytes hT hi hz0 hz1 hz2 hzs hk0 (.slice A n c) n (xs.flatMap enc) hs hown.2 ad m cy (ys.flatMap enc) hx (by rw [flat_len hk, hm]) hy ?_ (by unfold maxLen; omega) ?_ hlo ?_
  · intro u hu
    obtain ⟨y, _, hu⟩ := List.mem_flatMap.1 hu
    exact h1 y u hu
  · have := Nat.mul_le_mul hn hby; omega
  · intro v' w' hown' hgrow _
    rw [← List.flatMap_append] at hown'
    obtain ⟨A', c', rfl, hO⟩ := OwnK.of_row (by rw [List.length_append, hown.1, hm]) hown'
    exact h A' c' w' hO ((Below.refl _ _).grown hgrow hlo (fun k hk => (World.ownsRow.lt hown.2 k hk).1))
abbrev OwnN (w : World) (lo : Nat) (A : Option Addr) (n c : Nat) (xs : List Ln) : Prop := OwnK encN 4 52 w lo A n c xs

end Go.Proofs.YtjlcaggnfocabaaGreat

namespace Go.Proofs.YtjlcaggnfocabaaGreat
open Go.RowKit

/-- A line's numbers are those of columns and rows. -/
def CoL (l : Ln) : Prop := (Co l.1.1 ∧ Co l.1.2) ∧ (Co l.2.1 ∧ Co l.2.2)
theorem co_line {W p q : Int} (hW : 1 ≤ W ∧ W ≤ 8) (hp : 0 ≤ p ∧ p ≤ 64) (hq : 0 ≤ q ∧ q ≤ 64) : CoL (lnL W p q) :=
  ⟨spot_bd hW (show 0 ≤ min p q ∧ min p q ≤ 64 by omega), spot_bd hW (show 0 ≤ max p q ∧ max p q ≤ 64 by omega)⟩
theorem co_lines {W : Int} {ps : List Int} (hW : 1 ≤ W ∧ W ≤ 8) (h64 : ∀ x ∈ ps, 0 ≤ x ∧ x < 64) : ∀ l ∈ linesL W ps, CoL l := fun l hl => by
  obtain ⟨i, _, rfl⟩ := List.mem_map.1 hl
  exact co_line hW (getD_64 h64 i) (getD_64 h64 (i + 1))
theorem round_64 {ps : List Int} (h64 : ∀ x ∈ ps, 0 ≤ x ∧ x < 64) (hn : 1 ≤ ps.length) : ∀ x ∈ roundP ps, 0 ≤ x ∧ x < 64 := fun x hx => by
  rcases List.mem_append.1 hx with h | h
  · exact h64 x h
  · have e : x = ps.getD 0 0 := by simpa using h
    rw [e, List.getD_eq_getElem?_getD, List.getElem?_eq_getElem (by omega)]
    exact h64 _ (List.getElem_mem _)
theorem line_at {w : World} {lo g n c : Nat} {L : List Ln} (h : OwnN w lo (some ⟨g, 0, none⟩) n c L) {i : Nat} {l : Ln} (hx : L[i]? = some l) :
    w.cell? ⟨g, i * 4, none⟩ = some (.int .i64 l.1.1) ∧ w.cell? ⟨g, i * 4 + 1, none⟩ = some (.int .i64 l.1.2) ∧ w.cell? ⟨g, i * 4 + 2, none⟩ = some (.int .i64 l.2.1) ∧ w.cell? ⟨g, i * 4 + 3, none⟩ = some (.int .i64 l.2.2) :=
  ⟨OwnK.cell (j := 0) encN_len h hx rfl, OwnK.cell (j := 1) encN_len h hx rfl, OwnK.cell (j := 2) encN_len h hx rfl, OwnK.cell (j := 3) encN_len h hx rfl⟩

end Go.Proofs.YtjlcaggnfocabaaGreat

namespace Go.Proofs.YtjlcaggnfocabaaGreat
open Go.RowKit

def twoV (W H : Int) (xs : List Int) (a b : Int) : Bool := goodB W H xs && leaperB a b
def isPathV (W H : Int) (xs : List Int) (a b : Int) (ps : List Int) : Bool := if twoV W H xs a b then pathB W H xs a b ps else false

end Go.Proofs.YtjlcaggnfocabaaGreat

namespace Go.Proofs.YtjlcaggnfocabaaGreat

/-- The number of one bits among the lowest n. -/
def popN : Nat → Nat → Nat
  | 0, _ => 0
  | n + 1, x => x % 2 + popN n (x / 2)

theorem popN_append : ∀ (a b x : Nat), popN (a + b) x = popN a (x % 2 ^ a) + popN b (x / 2 ^ a)
  | 0, b, x => by simp [popN]
  | a + 1, b, x => by
    rw [show a + 1 + b = (a + b) + 1 by omega]
    simp only [popN]
    rw [popN_append a b (x / 2)]
    have e1 : x % 2 ^ (a + 1) % 2 = x % 2 := by
      rw [Nat.pow_succ, Nat.mul_comm]
      rw [Nat.mod_mul_right_mod]
    have e2 : x % 2 ^ (a + 1) / 2 = x / 2 % 2 ^ a := by
      rw [Nat.pow_succ, Nat.mul_comm, Nat.mod_mul_right_div_self]
    have e3 : x / 2 / 2 ^ a = x / 2 ^ (a + 1) := by
      rw [Nat.div_div_eq_div_mul, Nat.pow_succ, Nat.mul_comm]
    rw [e1, e2, e3]; omega

theorem and_split (q r m c : Nat) (hr : r < 256) (hc : c < 256) : (256 * q + r) &&& (256 * m + c) = 256 * (q &&& m) + (r &&& c) := by
  have h1 := Nat.and_div_two_pow (a := 256 * q + r) (b := 256 * m + c) (n := 8)
  have h2 := Nat.and_mod_two_pow (a := 256 * q + r) (b := 256 * m + c) (n := 8)
  have e1 : (256 * q + r) / 2 ^ 8 = q := by omega
  have e2 : (256 * m + c) / 2 ^ 8 = m := by omega
  have e3 : (256 * q + r) % 2 ^ 8 = r := by omega
  have e4 : (256 * m + c) % 2 ^ 8 = c := by omega
  rw [e1, e2] at h1; rw [e3, e4] at h2
  omega

theorem shr_split (k q r m c : Nat) (hk : k ≤ 8) (hr : r < 256) (hc : c < 2 ^ (8 - k)) : ((256 * q + r) / 2 ^ k) &&& (256 * m + c) = 256 * ((q / 2 ^ k) &&& m) + ((r / 2 ^ k) &&& c) := by
  have hp : 2 ^ k * 2 ^ (8 - k) = 256 := by rw [← Nat.pow_add, show k + (8 - k) = 8 by omega]
  have hc8 : c < 256 := Nat.lt_of_lt_of_le hc (by rw [← hp]; exact Nat.le_mul_of_pos_left _ (Nat.two_pow_pos k))
  have hX : (256 * q + r) / 2 ^ k = 256 * (q / 2 ^ k) + ((256 * q + r) / 2 ^ k) % 256 := by
    have h1 : (256 * q + r) / 2 ^ k / 256 = q / 2 ^ k := by
      have e0 : (256 * q + r) / 256 = q := by omega
      rw [Nat.div_div_eq_div_mul, Nat.mul_comm (2 ^ k), ← Nat.div_div_eq_div_mul, e0]
    have := Nat.div_add_mod ((256 * q + r) / 2 ^ k) 256
    rw [h1] at this; omega
  rw [hX, and_split _ _ _ _ (Nat.mod_lt _ (by decide)) hc8]
  congr 1
  -- the low byte behind the mask
  have hz : ∀ y, y &&& c = (y % 2 ^ (8 - k)) &&& c := by
    intro y
    have h2 := Nat.and_mod_two_pow (a := y) (b := c) (n := 8 - k)
    rw [Nat.mod_eq_of_lt hc, Nat.mod_eq_of_lt (Nat.lt_of_le_of_lt Nat.and_le_right hc)] at h2
    exact h2
  rw [hz ((256 * q + r) / 2 ^ k % 256)]
  have e5 : (256 * q + r) / 2 ^ k % 256 % 2 ^ (8 - k) = r / 2 ^ k := by
    rw [Nat.mod_mod_of_dvd _ ⟨2 ^ k, by rw [Nat.mul_comm, hp]⟩]
    rw [← Nat.mod_mul_right_div_self, hp]
    congr 1; omega
  rw [e5]

/-- A mask of n bytes. -/
def maskN (c : Nat) : Nat → Nat
  | 0 => 0
  | n + 1 => 256 * maskN c n + c

def sw1 (n x : Nat) : Nat := ((x / 2) &&& maskN 85 n) + (x &&& maskN 85 n)
def sw2 (n x : Nat) : Nat := ((x / 4) &&& maskN 51 n) + (x &&& maskN 51 n)
def sw3 (n x : Nat) : Nat := ((x / 16) + x) &&& maskN 15 n
def b1 (r : Nat) : Nat := ((r / 2) &&& 85) + (r &&& 85)
def b2 (r : Nat) : Nat := ((r / 4) &&& 51) + (r &&& 51)

theorem sw1_step (n q r : Nat) (hr : r < 256) : sw1 (n + 1) (256 * q + r) = 256 * sw1 n q + b1 r := by
  have hm : maskN 85 (n + 1) = 256 * maskN 85 n + 85 := rfl
  unfold sw1 b1
  rw [hm]
  have h1 := shr_split 1 q r (maskN 85 n) 85 (by decide) hr (by decide)
  have h2 := and_split q r (maskN 85 n) 85 hr (by decide)
  simp only [Nat.pow_one] at h1
  rw [h1, h2]; omega

theorem sw2_step (n q r : Nat) (hr : r < 256) : sw2 (n + 1) (256 * q + r) = 256 * sw2 n q + b2 r := by
  have hm : maskN 51 (n + 1) = 256 * maskN 51 n + 51 := rfl
  unfold sw2 b2
  rw [hm]
  have h1 := shr_split 2 q r (maskN 51 n) 51 (by decide) hr (by decide)
  have h2 := and_split q r (maskN 51 n) 51 hr (by decide)
  simp only [show (2:Nat) ^ 2 = 4 by decide] at h1
  rw [h1, h2]; omega

theorem and15 (x : Nat) : x &&& 15 = x % 16 := Nat.and_two_pow_sub_one_eq_mod x 4

theorem sw3_step (n q r : Nat) (hr : r < 256) (h0 : r % 16 ≤ 4) (h1 : r / 16 ≤ 4) (h2 : q % 16 ≤ 4) : sw3 (n + 1) (256 * q + r) = 256 * sw3 n q + (r / 16 + r % 16) := by
  have hm : maskN 15 (n + 1) = 256 * maskN 15 n + 15 := rfl
  unfold sw3
  rw [hm]
  have e : (256 * q + r) / 16 + (256 * q + r) = 256 * (q / 16 + q) + (16 * (q % 16 + r / 16) + (r / 16 + r % 16)) := by omega
  rw [e, and_split _ _ _ _ (by omega) (by decide), and15]
  congr 1
  omega

theorem byte_fact : ∀ r : Fin 256, b1 r.val < 256 ∧ b2 (b1 r.val) % 16 ≤ 4 ∧ b2 (b1 r.val) / 16 ≤ 4 ∧ b2 (b1 r.val) / 16 + b2 (b1 r.val) % 16 = popN 8 r.val := by decide +kernel

/-- The three steps, byte by byte. -/
theorem sw_step (n q r : Nat) (hr : r < 256) (hq : sw2 n (sw1 n q) % 16 ≤ 4) :
    sw2 (n + 1) (sw1 (n + 1) (256 * q + r)) % 16 ≤ 4 ∧ sw3 (n + 1) (sw2 (n + 1) (sw1 (n + 1) (256 * q + r))) = 256 * sw3 n (sw2 n (sw1 n q)) + popN 8 r := by
  obtain ⟨f1, f2, f3, f4⟩ := byte_fact ⟨r, hr⟩
  simp only at f1 f2 f3 f4
  rw [sw1_step n q r hr, sw2_step n _ _ f1]
  refine ⟨by omega, ?_⟩
  rw [sw3_step n _ _ (by omega) f2 f3 hq, f4]

theorem popN_le : ∀ n x, popN n x ≤ n
  | 0, _ => by simp [popN]
  | n + 1, x => by simp only [popN]; have := popN_le n (x / 2); omega

/-- All bytes. -/
def bytesOf : Nat → Nat → Nat
  | 0, _ => 0
  | n + 1, x => 256 * bytesOf n (x / 256) + popN 8 (x % 256)

theorem bytesOf_zero (x : Nat) : bytesOf 0 x = 0 := rfl
theorem bytesOf_succ (n x : Nat) : bytesOf (n + 1) x = 256 * bytesOf n (x / 256) + popN 8 (x % 256) := rfl

theorem sw_all : ∀ n x, x < 256 ^ n → sw2 n (sw1 n x) % 16 ≤ 4 ∧ sw3 n (sw2 n (sw1 n x)) = bytesOf n x
  | 0, x, h => by
    have : x = 0 := by simpa using h
    subst this; decide
  | n + 1, x, h => by
    have hx : x = 256 * (x / 256) + x % 256 := by omega
    obtain ⟨i1, i2⟩ := sw_all n (x / 256) (by rw [Nat.pow_succ] at h; exact Nat.div_lt_of_lt_mul (by omega))
    obtain ⟨j1, j2⟩ := sw_step n (x / 256) (x % 256) (by omega) i1
    rw [← hx] at j1 j2
    exact ⟨j1, by rw [j2, i2, bytesOf]⟩

theorem popN_bytes (n x : Nat) (k : Nat) (h : n = 8 + k) : popN n x = popN 8 (x % 256) + popN k (x / 256) := by
  subst h; exact popN_append 8 k x

theorem div_of_split (M a q X : Nat) (e : X = a + M * q) (h : a < M) : X / M = q := by
  rw [e, Nat.add_mul_div_left _ _ (by omega), Nat.div_eq_of_lt h]; omega

theorem swar_sum (B0 B1 B2 B3 B4 B5 B6 B7 x x1 x2 x3 : Nat) (h0 : B0 ≤ 8) (h1 : B1 ≤ 8) (h2 : B2 ≤ 8) (h3 : B3 ≤ 8) (h4 : B4 ≤ 8) (h5 : B5 ≤ 8) (h6 : B6 ≤ 8) (h7 : B7 ≤ 8)
    (e : x = B0 + 256 * (B1 + 256 * (B2 + 256 * (B3 + 256 * (B4 + 256 * (B5 + 256 * (B6 + 256 * B7)))))))
    (e1 : x1 = x + x / 256) (e2 : x2 = x1 + x1 / 65536) (e3 : x3 = x2 + x2 / 4294967296) :
    x3 % 128 = B0 + B1 + B2 + B3 + B4 + B5 + B6 + B7 ∧ x3 < 9223372036854775808 := by
  have d1 := div_of_split 256 B0 _ x e (by omega)
  rw [d1] at e1
  have d2 := div_of_split 65536 ((B0 + B1) + 256 * (B1 + B2)) ((B2 + B3) + 256 * ((B3 + B4) + 256 * ((B4 + B5) + 256 * ((B5 + B6) + 256 * ((B6 + B7) + 256 * B7))))) x1 (by omega) (by omega)
  rw [d2] at e2
  have d3 := div_of_split 4294967296 ((B0 + B1 + (B2 + B3)) + 256 * ((B1 + B2 + (B3 + B4)) + 256 * ((B2 + B3 + (B4 + B5)) + 256 * (B3 + B4 + (B5 + B6))))) ((B4 + B5 + (B6 + B7)) + 256 * ((B5 + B6 + B7) + 256 * ((B6 + B7) + 256 * B7))) x2 (by omega) (by omega)
  rw [d3] at e3
  clear d1 d2 d3
  have f : x3 = (B0 + B1 + B2 + B3 + B4 + B5 + B6 + B7) + 256 * ((B1 + B2 + (B3 + B4) + (B5 + B6 + B7)) + 256 * ((B2 + B3 + (B4 + B5) + (B6 + B7)) + 256 * ((B3 + B4 + (B5 + B6) + B7) + 256 * ((B4 + B5 + (B6 + B7)) + 256 * ((B5 + B6 + B7) + 256 * ((B6 + B7) + 256 * B7)))))) := by omega
  clear e e1 e2 e3
  subst f
  constructor
  · rw [Nat.add_mod, Nat.mod_eq_of_lt (b := 128) (a := B0 + B1 + B2 + B3 + B4 + B5 + B6 + B7) (by omega), show (256 : Nat) = 128 * 2 by rfl, Nat.mul_assoc 128 2, Nat.mul_mod_right, Nat.add_zero, Nat.mod_eq_of_lt (by omega)]
  · omega

/-- Go's text of bits.OnesCount64. -/
theorem onesCount64 (x y1 y2 y3 x1 x2 x3 : Nat) (hx : x < 18446744073709551616)
    (e1 : y1 = ((x / 2) &&& 6148914691236517205) + (x &&& 6148914691236517205))
    (e2 : y2 = ((y1 / 4) &&& 3689348814741910323) + (y1 &&& 3689348814741910323))
    (e3 : y3 = ((y2 / 16) + y2) &&& 1085102592571150095)
    (f1 : x1 = y3 + y3 / 256) (f2 : x2 = x1 + x1 / 65536) (f3 : x3 = x2 + x2 / 4294967296) :
    x3 % 128 = popN 64 x ∧ x3 < 9223372036854775808 := by
  have m0 : maskN 85 8 = 6148914691236517205 := by decide
  have m1 : maskN 51 8 = 3689348814741910323 := by decide
  have m2 : maskN 15 8 = 1085102592571150095 := by decide
  have hy : y3 = bytesOf 8 x := by
    have := (sw_all 8 x (by omega)).2
    rw [← this, e3, e2, e1]
    unfold sw3 sw2 sw1
    rw [m0, m1, m2]
  have hp : popN 64 x = popN 8 (x % 256) + (popN 8 (x / 256 % 256) + (popN 8 (x / 256 / 256 % 256) + (popN 8 (x / 256 / 256 / 256 % 256) + (popN 8 (x / 256 / 256 / 256 / 256 % 256) + (popN 8 (x / 256 / 256 / 256 / 256 / 256 % 256) + (popN 8 (x / 256 / 256 / 256 / 256 / 256 / 256 % 256) + (popN 8 (x / 256 / 256 / 256 / 256 / 256 / 256 / 256 % 256)))))))) := by
    rw [popN_bytes 64 x 56 rfl, popN_bytes 56 _ 48 rfl, popN_bytes 48 _ 40 rfl, popN_bytes 40 _ 32 rfl, popN_bytes 32 _ 24 rfl, popN_bytes 24 _ 16 rfl, popN_bytes 16 _ 8 rfl]
    rw [popN_bytes 8 (x / 256 / 256 / 256 / 256 / 256 / 256 / 256) 0 rfl]; exact congrArg _ (congrArg _ (congrArg _ (congrArg _ (congrArg _ (congrArg _ (congrArg _ (Nat.add_zero _)))))))
  have l := fun r => popN_le 8 r
  rw [hp]
  have hb : bytesOf 8 x = popN 8 (x % 256) + 256 * (popN 8 (x / 256 % 256) + 256 * (popN 8 (x / 256 / 256 % 256) + 256 * (popN 8 (x / 256 / 256 / 256 % 256) + 256 * (popN 8 (x / 256 / 256 / 256 / 256 % 256) + 256 * (popN 8 (x / 256 / 256 / 256 / 256 / 256 % 256) + 256 * (popN 8 (x / 256 / 256 / 256 / 256 / 256 / 256 % 256) + 256 * popN 8 (x / 256 / 256 / 256 / 256 / 256 / 256 / 256 % 256))))))) := by
    rw [bytesOf_succ 7, bytesOf_succ 6, bytesOf_succ 5, bytesOf_succ 4, bytesOf_succ 3, bytesOf_succ 2, bytesOf_succ 1, bytesOf_succ 0, bytesOf_zero]
    simp only [Nat.mul_zero, Nat.zero_add, Nat.add_comm]
  rw [hb] at hy
  have hl := swar_sum _ _ _ _ _ _ _ _ y3 x1 x2 x3 (l (x % 256)) (l (x / 256 % 256)) (l (x / 256 / 256 % 256)) (l (x / 256 / 256 / 256 % 256)) (l (x / 256 / 256 / 256 / 256 % 256)) (l (x / 256 / 256 / 256 / 256 / 256 % 256)) (l (x / 256 / 256 / 256 / 256 / 256 / 256 % 256)) (l (x / 256 / 256 / 256 / 256 / 256 / 256 / 256 % 256)) hy f1 f2 f3
  refine ⟨?_, hl.2⟩
  rw [hl.1]
  simp only [Nat.add_assoc]

theorem popN_or : ∀ (n x c : Nat), c < n → popN n (x ||| 2 ^ c) = popN n x + if x.testBit c then 0 else 1
  | 0, _, _, h => by omega
  | n + 1, x, 0, _ => by
    simp only [popN, Nat.pow_zero]
    have e1 : (x ||| 1) % 2 = 1 := by
      have h := Nat.or_mod_two_pow (a := x) (b := 1) (n := 1)
      rcases Nat.mod_two_eq_zero_or_one x with h0 | h0
      · rw [Nat.pow_one, h0] at h; exact h
      · rw [Nat.pow_one, h0] at h; exact h
    have e2 : (x ||| 1) / 2 = x / 2 := by
      have := Nat.or_div_two_pow (a := x) (b := 1) (n := 1)
      simpa using this
    rw [e1, e2, Nat.testBit_zero]
    by_cases h : x % 2 = 1
    · simp [h]
    · have : x % 2 = 0 := by omega
      simp [this]; omega
  | n + 1, x, c + 1, h => by
    simp only [popN]
    have e1 : (x ||| 2 ^ (c + 1)) % 2 = x % 2 := by
      have h := Nat.or_mod_two_pow (a := x) (b := 2 ^ (c + 1)) (n := 1)
      have hz : 2 ^ (c + 1) % 2 = 0 := by rw [Nat.pow_succ]; omega
      simpa [hz] using h
    have e2 : (x ||| 2 ^ (c + 1)) / 2 = x / 2 ||| 2 ^ c := by
      have h := Nat.or_div_two_pow (a := x) (b := 2 ^ (c + 1)) (n := 1)
      have hz : 2 ^ (c + 1) / 2 = 2 ^ c := by rw [Nat.pow_succ]; omega
      simpa [hz] using h
    rw [e1, e2, popN_or n (x / 2) c (by omega), Nat.testBit_succ]
    omega

/-- The set of a list of cells. -/
def setBits (xs : List Nat) : Nat := xs.foldl (fun s c => s ||| 2 ^ c) 0

theorem setBits_snoc (xs : List Nat) (c : Nat) : setBits (xs ++ [c]) = setBits xs ||| 2 ^ c := by
  simp [setBits, List.foldl_append]

theorem setBits_test (c : Nat) : ∀ (n : Nat) (xs : List Nat), xs.length = n → ((setBits xs).testBit c = true ↔ c ∈ xs)
  | 0, xs, h => by
    have : xs = [] := List.eq_nil_of_length_eq_zero h
    subst this; simp [setBits]
  | n + 1, xs, h => by
    obtain ⟨ys, y, rfl⟩ : ∃ ys y, xs = ys ++ [y] := ⟨xs.dropLast, xs.getLast (by intro e; simp [e] at h), (List.dropLast_concat_getLast _).symm⟩
    rw [setBits_snoc, Nat.testBit_or, Bool.or_eq_true, setBits_test c n ys (by simpa using h), Nat.testBit_two_pow]
    simp [eq_comm]

theorem setBits_lt (xs : List Nat) (h : ∀ c ∈ xs, c < 64) : setBits xs < 18446744073709551616 := by
  apply Nat.lt_pow_two_of_testBit (n := 64)
  intro i hi
  by_cases hm : (setBits xs).testBit i = true
  · have := (setBits_test i _ xs rfl).1 hm
    have := h i this; omega
  · simpa using hm

/-- A list has a bit for each of its cells just where none stands in it twice. -/
theorem popN_set : ∀ (n : Nat) (xs : List Nat), xs.length = n → (∀ c ∈ xs, c < 64) → popN 64 (setBits xs) ≤ xs.length ∧ (popN 64 (setBits xs) = xs.length ↔ xs.Nodup)
  | 0, xs, h, _ => by
    have : xs = [] := List.eq_nil_of_length_eq_zero h
    subst this; simp [setBits]; decide
  | n + 1, xs, h, hc => by
    obtain ⟨ys, y, rfl⟩ : ∃ ys y, xs = ys ++ [y] := ⟨xs.dropLast, xs.getLast (by intro e; simp [e] at h), (List.dropLast_concat_getLast _).symm⟩
    obtain ⟨i1, i2⟩ := popN_set n ys (by simpa using h) (fun c hm => hc c (by simp [hm]))
    rw [setBits_snoc, popN_or 64 _ y (hc y (by simp))]
    have ht := setBits_test y _ ys rfl
    have hn : (ys ++ [y]).Nodup ↔ ys.Nodup ∧ y ∉ ys := by
      rw [List.nodup_append]
      simp
      intro _
      constructor
      · intro h hm; exact h y hm rfl
      · intro h a ha e; exact h (e ▸ ha)
    rw [hn]
    by_cases hm : (setBits ys).testBit y = true
    · have := ht.1 hm
      simp [hm]
      constructor
      · omega
      · constructor
        · intro h; omega
        · intro h; exact absurd this h.2
    · have hm' : y ∉ ys := fun h => hm (ht.2 h)
      simp [hm]
      constructor
      · omega
      · rw [i2]; constructor
        · intro h; exact ⟨h, hm'⟩
        · intro h; exact h.1
end Go.Proofs.YtjlcaggnfocabaaGreat

namespace Go.Proofs.YtjlcaggnfocabaaGreat
open Go.RowKit

theorem and_nat (a b : Nat) (v : Int) (ha : a < 18446744073709551616) (hb : b < 18446744073709551616) (hv : v = (a : Int)) : bits .and .u64 v (b : Int) = ((a &&& b : Nat) : Int) := by
  rw [hv]; exact bits_and_u64_nat a b ha hb
theorem wrap_nat (a : Nat) (v : Int) (ha : a < 18446744073709551616) (hv : v = (a : Int)) : IntKind.u64.wrap v = (a : Int) := by
  rw [IntKind.wrap_u64, hv]; omega

end Go.Proofs.YtjlcaggnfocabaaGreat

namespace Go.Proofs.YtjlcaggnfocabaaGreat
open Go.RowKit

/-- The board's box, which a closure reads. -/
def BrdAt (w : World) (g : Nat) (W H : Int) (A : Option Addr) (n c : Nat) : Prop := w.cell? ⟨g, 0, none⟩ = some (.int .i64 W) ∧ w.cell? ⟨g, 1, none⟩ = some (.int .i64 H) ∧ w.cell? ⟨g, 2, none⟩ = some (.slice A n c) ∧ g < w.heap.size
theorem BrdAt.keep {w w' : World} {g : Nat} {W H : Int} {A : Option Addr} {n c : Nat} (h : BrdAt w g W H A n c) (hb : Below w.heap.size w w') : BrdAt w' g W H A n c :=
  ⟨cell_keep h.1 h.2.2.2 hb, cell_keep h.2.1 h.2.2.2 hb, cell_keep h.2.2.1 h.2.2.2 hb, lt_keep h.2.2.2 hb⟩
def onK (W H : Int) (xs : List Int) (a b : Int) (ps : List Int) : Bool := twoV W H xs a b && ps.all (hasB W H xs)

set_option maxHeartbeats 1000000 in
theorem notThere_any (g : Nat) (W H : Int) (A : Option Addr) (n c : Nat) (xs : List Int) (q : Int) (w : World) (hat : BrdAt w g W H A n c) (ha : Rd w A n xs) (hg : goodB W H xs = true) :
    Calls Tryz.prog 82 #[.int .i64 q, .pointer (some ⟨g, 0, none⟩)] w fun e w' => e = .returned (.bool (!hasB W H xs q)) ∧ Below w.heap.size w w' := by
  obtain ⟨b0, b1, b2, bl⟩ := hat
  have HG := Lib.hid hg; have HA := Lib.hid ha
  clear hg ha
  go_enter Tryz.func82, Tryz.ntmps82
  go_wp2_with fail
  refine (isThere_any W H A n c q xs _ HA.out HG.out).mono ?_
  rintro e wv ⟨rfl, hb⟩
  go_wp2
  go_ret
  exact ⟨rfl, hb⟩

set_option maxRecDepth 100000 in
set_option maxHeartbeats 2000000 in
theorem indexThere_any (g : Nat) (W H : Int) (A : Option Addr) (n c : Nat) (xs : List Int) (A2 : Option Addr) (m c2 : Nat) (ps : List Int) (w : World) (hat : BrdAt w g W H A n c) (ha : Rd w A n xs) (hp : Rd w A2 m ps) (hg : goodB W H xs = true) :
    Calls Tryz.prog 99 #[.slice A2 m c2, .func (.func 82) #[] #[.pointer (some ⟨g, 0, none⟩)]] w fun e w' => ∃ r : Int, e = .returned (.int .i64 r) ∧ -1 ≤ r ∧ decide (0 ≤ r) = (!ps.all (hasB W H xs)) ∧ Below w.heap.size w w' := by
  have HAT := Lib.hid hat; have HA := Lib.hid ha; have HP := Lib.hid hp; have HG := Lib.hid hg
  have HPL := Lib.hid hp.1
  have m9 := hp.2.1
  clear hat ha hp hg
  go_enter Tryz.func99, Tryz.ntmps99
  go_wp2
  go_loopw [8] (fun i wr => ∃ k : Nat, k ≤ m ∧ i = .int .i64 k ∧ (ps.take k).all (hasB W H xs) = true ∧ Below w.heap.size w wr) (fun i _ => m - (intOf i).toNat)
  case atStart => exact ⟨0, Nat.zero_le _, rfl, by simp, Below.refl _ _⟩
  case round =>
    obtain ⟨k, hk, rfl, hno, hbw⟩ := hrel
    have HNO := Lib.hid hno
    have HB := Lib.hid hbw
    clear hno
    by_cases hlt : k < m
    · obtain ⟨bb, oo, x, rfl, hg1, hx, x0⟩ := HP.out.at_ hlt
      have HX := Lib.hid hx
      replace x0 := cell_keep x0 hg1 hbw
      have hK := notThere_any g W H A n c xs x wr (HAT.out.keep hbw) (HA.out.keep hbw) HG.out
      clear hx hbw hg1
      cases hsm : hasB W H xs x with
      | true =>
        have HS := Lib.hid hsm
        go_wp2_with fail
        refine hK.mono ?_
        rw [hsm]
        rintro e wv ⟨rfl, hb⟩
        replace HB := Lib.hid (HB.out.trans (hb.mono HB.out.size))
        clear hb hK hsm x0
        go_wp2
        go_roundw
        case rel => exact ⟨k + 1, by omega, by go_num, by rw [List.take_add_one, HX.out, List.all_append, HNO.out]; simp [HS.out], HB.out⟩
        case measure => simp [intOf]; omega
      | false =>
        have HS := Lib.hid hsm
        go_wp2_with fail
        refine hK.mono ?_
        rw [hsm]
        rintro e wv ⟨rfl, hb⟩
        replace HB := Lib.hid (HB.out.trans (hb.mono HB.out.size))
        clear hb hK hsm x0
        go_wp2
        go_ret
        exact ⟨(k : Int), rfl, by omega, by rw [show ps.all (hasB W H xs) = false from List.all_eq_false.2 ⟨x, List.mem_of_getElem? HX.out, by simp [HS.out]⟩]; simp, HB.out⟩
    · have hkn : k = m := by omega
      subst hkn
      clear hbw
      go_wp2
      go_ret
      exact ⟨-1, rfl, by omega, by have h := HNO.out; rw [List.take_of_length_le (by have := HPL.out; omega)] at h; rw [h]; simp, HB.out⟩

set_option maxRecDepth 100000 in
set_option maxHeartbeats 2000000 in
theorem containsThere_any (g : Nat) (W H : Int) (A : Option Addr) (n c : Nat) (xs : List Int) (A2 : Option Addr) (m c2 : Nat) (ps : List Int) (w : World) (hat : BrdAt w g W H A n c) (ha : Rd w A n xs) (hp : Rd w A2 m ps) (hg : goodB W H xs = true) :
    Calls Tryz.prog 81 #[.slice A2 m c2, .func (.func 82) #[] #[.pointer (some ⟨g, 0, none⟩)]] w fun e w' => e = .returned (.bool (!ps.all (hasB W H xs))) ∧ Below w.heap.size w w' := by
  have hI := indexThere_any g W H A n c xs A2 m c2 ps w hat ha hp hg
  clear hat ha hp hg
  go_enter Tryz.func81, Tryz.ntmps81
  go_wp2_with fail
  refine hI.mono ?_
  rintro e wv ⟨r, rfl, hr1, hr3, hb⟩
  have HR := Lib.hid hr3
  clear hI hr3
  go_wp2
  go_ret
  exact ⟨ret_bool (by rw [← HR.out]), hb⟩

set_option maxRecDepth 100000 in
set_option maxHeartbeats 2000000 in
theorem areThere_any (W H : Int) (A : Option Addr) (n c : Nat) (xs : List Int) (A2 : Option Addr) (m c2 : Nat) (ps : List Int) (w : World) (ha : Rd w A n xs) (hp : Rd w A2 m ps) (hg : goodB W H xs = true) :
    Calls Tryz.prog 69 #[brd W H A n c, .slice A2 m c2] w fun e w' => e = .returned (.bool (ps.all (hasB W H xs))) ∧ Below w.heap.size w w' := by
  obtain ⟨W2, hW2⟩ : ∃ W2, W2 = w.alloc (.cells #[.int .i64 W, .int .i64 H, .slice A n c] 31) := ⟨_, rfl⟩
  have hat : BrdAt W2 w.heap.size W H A n c := by rw [hW2]; exact ⟨by go_simp, by go_simp, by go_simp, by simp⟩
  have B := Lib.hid (show Below w.heap.size w W2 by rw [hW2]; exact below_new (Below.refl _ _) _)
  have hC := containsThere_any w.heap.size W H A n c xs A2 m c2 ps W2 hat (ha.keep B.out) (hp.keep B.out) hg
  clear hat ha hp hg
  go_enter Tryz.func69, Tryz.ntmps69
  go_wp2_with fail
  rw [← hW2]
  clear hW2
  refine hC.mono ?_
  rintro e wv ⟨rfl, hb⟩
  replace B := Lib.hid (below_next B.out hb)
  clear hC hb
  go_wp2
  go_ret
  exact ⟨ret_bool (by simp), B.out⟩

set_option maxRecDepth 100000 in
set_option maxHeartbeats 2000000 in
theorem isLeaperOnK_any (W H : Int) (A : Option Addr) (n c : Nat) (xs : List Int) (a b : Int) (A2 : Option Addr) (m c2 : Nat) (ps : List Int) (w : World) (ha : Rd w A n xs) (hp : Rd w A2 m ps) :
    Calls Tryz.prog 51 #[brd W H A n c, lpr a b, .slice A2 m c2] w fun e w' => e = .returned (.bool (onK W H xs a b ps)) ∧ Below w.heap.size w w' := by
  obtain ⟨W2, hW2⟩ : ∃ W2, W2 = (w.alloc (.cells #[.int .i64 W, .int .i64 H, .slice A n c] 31)).alloc (.cells #[.int .i64 a, .int .i64 b] 33) := ⟨_, rfl⟩
  have a0 : W2.cell? ⟨w.heap.size, 0, none⟩ = some (.int .i64 W) := by rw [hW2]; go_simp
  have a1 : W2.cell? ⟨w.heap.size, 1, none⟩ = some (.int .i64 H) := by rw [hW2]; go_simp
  have a2 : W2.cell? ⟨w.heap.size, 2, none⟩ = some (.slice A n c) := by rw [hW2]; go_simp
  have l0 : W2.cell? ⟨w.heap.size + 1, 0, none⟩ = some (.int .i64 a) := by rw [hW2]; go_simp
  have l1 : W2.cell? ⟨w.heap.size + 1, 1, none⟩ = some (.int .i64 b) := by rw [hW2]; go_simp
  have al : w.heap.size < W2.heap.size := by rw [hW2]; simp; omega
  have B := Lib.hid (show Below w.heap.size w W2 by rw [hW2]; exact below_new (below_new (Below.refl _ _) _) _)
  have R := Lib.hid (ha.keep B.out); have RP := Lib.hid (hp.keep B.out)
  clear ha hp
  cases hl : leaperB a b with
  | true =>
    have HL := Lib.hid hl
    clear hl
    cases hg : goodB W H xs with
    | true =>
      have HG := Lib.hid hg
      clear hg
      go_enter Tryz.func51, Tryz.ntmps51
      go_wp2_with fail
      rw [← hW2]
      clear hW2
      refine (isLeaper_any _ _ _).mono ?_
      rw [HL.out]
      rintro e wv ⟨rfl, hb⟩
      replace a0 := cell_keep a0 al hb; replace a1 := cell_keep a1 al hb; replace a2 := cell_keep a2 al hb; replace al := lt_keep al hb
      replace R := Lib.hid (R.out.keep hb); replace RP := Lib.hid (RP.out.keep hb)
      replace B := Lib.hid (below_next B.out hb)
      clear hb l0 l1
      go_wp2_with fail
      refine (isBoard_any _ _ _ _ _ _ _ R.out).mono ?_
      rw [HG.out]
      rintro e wv ⟨rfl, hb⟩
      replace a0 := cell_keep a0 al hb; replace a1 := cell_keep a1 al hb; replace a2 := cell_keep a2 al hb; replace al := lt_keep al hb
      replace R := Lib.hid (R.out.keep hb); replace RP := Lib.hid (RP.out.keep hb)
      replace B := Lib.hid (below_next B.out hb)
      clear hb
      go_wp2_with fail
      refine (areThere_any _ _ _ _ _ _ _ _ _ _ _ R.out RP.out HG.out).mono ?_
      rintro e wv ⟨rfl, hb⟩
      replace B := Lib.hid (below_next B.out hb)
      clear hb a0 a1 a2 al
      go_wp2
      go_ret
      exact ⟨ret_bool (by rw [onK, twoV, HL.out, HG.out]; simp), B.out⟩
    | false =>
      have HG := Lib.hid hg
      clear hg
      go_enter Tryz.func51, Tryz.ntmps51
      go_wp2_with fail
      rw [← hW2]
      clear hW2
      refine (isLeaper_any _ _ _).mono ?_
      rw [HL.out]
      rintro e wv ⟨rfl, hb⟩
      replace a0 := cell_keep a0 al hb; replace a1 := cell_keep a1 al hb; replace a2 := cell_keep a2 al hb; replace al := lt_keep al hb
      replace R := Lib.hid (R.out.keep hb); replace RP := Lib.hid (RP.out.keep hb)
      replace B := Lib.hid (below_next B.out hb)
      clear hb l0 l1
      go_wp2_with fail
      refine (isBoard_any _ _ _ _ _ _ _ R.out).mono ?_
      rw [HG.out]
      rintro e wv ⟨rfl, hb⟩
      replace B := Lib.hid (below_next B.out hb)
      clear hb a0 a1 a2 al
      go_wp2
      go_ret
      exact ⟨ret_bool (by rw [onK, twoV, HG.out]; simp), B.out⟩
  | false =>
    have HL := Lib.hid hl
    clear hl
    go_enter Tryz.func51, Tryz.ntmps51
    go_wp2_with fail
    rw [← hW2]
    clear hW2
    refine (isLeaper_any _ _ _).mono ?_
    rw [HL.out]
    rintro e wv ⟨rfl, hb⟩
    replace B := Lib.hid (below_next B.out hb)
    clear hb a0 a1 a2 al l0 l1
    go_wp2
    go_ret
    exact ⟨ret_bool (by rw [onK, twoV, HL.out]; simp), B.out⟩
theorem isOn0_any (W H : Int) (A : Option Addr) (n c : Nat) (xs : List Int) (a b : Int) (w : World) (ha : Rd w A n xs) :
    Calls Tryz.prog 51 #[brd W H A n c, lpr a b, .slice none 0 0] w fun e w' => e = .returned (.bool (twoV W H xs a b)) ∧ Below w.heap.size w w' := by
  have h := isLeaperOnK_any W H A n c xs a b none 0 0 [] w ha (Rd.nil w none)
  rw [show onK W H xs a b [] = twoV W H xs a b by simp [onK]] at h
  exact h
end Go.Proofs.YtjlcaggnfocabaaGreat

namespace Go.Proofs.YtjlcaggnfocabaaGreat
open Go.RowKit

theorem goes_all {W H a b : Int} {hs : List Int} : ∀ (ps : List Int) (p : Option Int), goesB W H hs a b p ps = true → ∀ x ∈ ps, hasB W H hs x = true
  | [], _, _, x, h => by cases h
  | c :: t, p, h, x, hx => by
    simp only [goesB, Bool.and_eq_true] at h
    rcases List.mem_cons.1 hx with rfl | h1
    · exact h.1.1
    · exact goes_all t _ h.2 x h1
theorem path_has {W H a b : Int} {hs ps : List Int} (h : pathB W H hs a b ps = true) : ∀ x ∈ ps, hasB W H hs x = true := by
  simp only [pathB, Bool.and_eq_true] at h
  exact goes_all ps none h.2
theorem path_len {W H a b : Int} {hs ps : List Int} (h : pathB W H hs a b ps = true) : 1 ≤ ps.length ∧ ps.length ≤ 64 := by
  simp only [pathB, Bool.and_eq_true, decide_eq_true_eq] at h
  exact h.1
theorem path_64 {W H a b : Int} {hs ps : List Int} (hg : goodB W H hs = true) (h : pathB W H hs a b ps = true) : ∀ x ∈ ps, 0 ≤ x ∧ x < 64 := by
  intro x hx
  have h1 := (hasB_iff.1 (path_has h x hx)).1
  obtain ⟨hW, hH, _, _⟩ := goodB_iff.1 hg
  have := cells_le hW hH
  omega
def walkB (W H : Int) (hs : List Int) (a b : Int) (ps : List Int) : Bool := pathB W H hs a b ps && decide ps.Nodup
def tourB (W H : Int) (hs : List Int) (a b : Int) (ps : List Int) : Bool := walkB W H hs a b ps && decide (ps.length = (cellsL W H hs).length)
def closedB (W H : Int) (hs : List Int) (a b : Int) (ps : List Int) : Bool := decide (3 ≤ ps.length) && tourB W H hs a b ps && leapB W a b (ps.getD (ps.length - 1) 0) (ps.getD 0 0)
theorem two_gK {W H a b : Int} {xs : List Int} (h : twoV W H xs a b = true) : goodB W H xs = true := by simp only [twoV, Bool.and_eq_true] at h; exact h.1
theorem nodup_snoc {ps : List Int} {k : Nat} {x : Int} (hx : ps[k]? = some x) (h : (ps.take k).Nodup) (hn : (ps.take k).contains x = false) : (ps.take (k + 1)).Nodup := by
  rw [List.take_add_one, hx]
  simp only [List.contains_eq_mem, decide_eq_false_iff_not] at hn
  rw [List.nodup_append]
  refine ⟨h, by simp, fun y hy z hz e => ?_⟩
  have : z = x := by simpa using hz
  exact hn (this ▸ e ▸ hy)
theorem nodup_hit {ps : List Int} {k : Nat} {x : Int} (hx : ps[k]? = some x) (hn : (ps.take k).contains x = true) : ¬ ps.Nodup := by
  intro h
  have h2 : (ps.take (k + 1)).Nodup := h.sublist (List.take_sublist _ _)
  rw [List.take_add_one, hx, List.nodup_append] at h2
  simp only [List.contains_eq_mem, decide_eq_true_eq] at hn
  exact h2.2.2 x hn x (by simp) rfl
theorem nodup_map {ps : List Int} (h : ∀ x ∈ ps, 0 ≤ x ∧ x < 64) : (ps.map Int.toNat).Nodup ↔ ps.Nodup := by
  induction ps with
  | nil => simp
  | cons x t ih =>
    rw [List.map_cons, List.nodup_cons, List.nodup_cons, ih (fun y hy => h y (List.mem_cons_of_mem _ hy))]
    have : x.toNat ∈ t.map Int.toNat ↔ x ∈ t := by
      rw [List.mem_map]
      constructor
      · rintro ⟨y, hy, e⟩
        have h1 := h x List.mem_cons_self; have h2 := h y (List.mem_cons_of_mem _ hy)
        have : y = x := by omega
        exact this ▸ hy
      · intro hx; exact ⟨x, hx, rfl⟩
    rw [this]
/-- How many bits the set of a walk has. -/
theorem pop_walk {ps : List Int} (h : ∀ x ∈ ps, 0 ≤ x ∧ x < 64) : popN 64 (setBits (ps.map Int.toNat)) = ps.length ↔ ps.Nodup := by
  have := (popN_set _ (ps.map Int.toNat) rfl (fun c hc => by obtain ⟨y, hy, rfl⟩ := List.mem_map.1 hc; have := h y hy; omega)).2
  rw [List.length_map, nodup_map h] at this
  exact this
theorem set_lt {ps : List Int} (h : ∀ x ∈ ps, 0 ≤ x ∧ x < 64) : setBits (ps.map Int.toNat) < 18446744073709551616 := setBits_lt _ (fun c hc => by obtain ⟨y, hy, rfl⟩ := List.mem_map.1 hc; have := h y hy; omega)

theorem boTwoV_any (W H : Int) (A : Option Addr) (n c : Nat) (xs : List Int) (a b : Int) (w : World) (ha : Rd w A n xs) :
    Calls Tryz.prog 18 #[brd W H A n c, lpr a b] w fun e w' => e = .returned (.bool (twoV W H xs a b)) ∧ Below w.heap.size w w' := boTwo_any W H A n c xs a b w ha
end Go.Proofs.YtjlcaggnfocabaaGreat

namespace Go.Proofs.YtjlcaggnfocabaaGreat
open Go.RowKit

def apartB (met ps : List Int) : Bool := ps.all fun x => !met.contains x
theorem apart_iff {met ps : List Int} : apartB met ps = true ↔ ∀ x ∈ ps, x ∉ met := by simp [apartB]
theorem apart_nil (ps : List Int) : apartB [] ps = true := by simp [apartB]
theorem setBits_append (xs : List Nat) (ys : List Nat) : setBits (xs ++ ys) = setBits xs ||| setBits ys := by
  apply Nat.eq_of_testBit_eq
  intro i
  rw [Nat.testBit_or, Bool.eq_iff_iff, Bool.or_eq_true, setBits_test i _ _ rfl, setBits_test i _ _ rfl, setBits_test i _ _ rfl, List.mem_append]
theorem mem_nat {ps : List Int} (h : ∀ x ∈ ps, 0 ≤ x ∧ x < 64) {i : Nat} : i ∈ ps.map Int.toNat ↔ (i : Int) ∈ ps := by
  rw [List.mem_map]
  constructor
  · rintro ⟨y, hy, rfl⟩
    have := h y hy
    rwa [show ((y.toNat : Nat) : Int) = y by omega]
  · intro hi
    exact ⟨_, hi, by omega⟩
theorem setBits_meet {met ps : List Int} (h1 : ∀ x ∈ met, 0 ≤ x ∧ x < 64) (h2 : ∀ x ∈ ps, 0 ≤ x ∧ x < 64) :
    (setBits (met.map Int.toNat) &&& setBits (ps.map Int.toNat)) = 0 ↔ apartB met ps = true := by
  rw [apart_iff]
  constructor
  · intro h x hx hm
    obtain ⟨k, rfl⟩ : ∃ k : Nat, x = (k : Int) := ⟨x.toNat, by have := h2 x hx; omega⟩
    have h3 : (setBits (met.map Int.toNat) &&& setBits (ps.map Int.toNat)).testBit k = true := by
      rw [Nat.testBit_and, Bool.and_eq_true, setBits_test k _ _ rfl, setBits_test k _ _ rfl, mem_nat h1, mem_nat h2]
      exact ⟨hm, hx⟩
    rw [h] at h3
    simp at h3
  · intro h
    apply Nat.eq_of_testBit_eq
    intro i
    rw [Nat.zero_testBit, Bool.eq_false_iff]
    intro h3
    rw [Nat.testBit_and, Bool.and_eq_true, setBits_test i _ _ rfl, setBits_test i _ _ rfl, mem_nat h1, mem_nat h2] at h3
    exact h _ h3.2 h3.1
theorem apart_comm (p q : List Int) : apartB p q = apartB q p := by
  rw [Bool.eq_iff_iff, apart_iff, apart_iff]
  exact ⟨fun h x hx hq => h x hq hx, fun h x hx hq => h x hq hx⟩
theorem goes_last {W H a b : Int} {hs : List Int} : ∀ (xs ys : List Int) (o : Option Int) (hx : xs ≠ []),
    goesB W H hs a b o (xs ++ ys) = (goesB W H hs a b o xs && goesB W H hs a b (some (xs.getLast hx)) ys)
  | [], _, _, hx => absurd rfl hx
  | [x], ys, o, _ => by simp [goesB]
  | x :: y :: t, ys, o, _ => by
    have ih := goes_last (W := W) (H := H) (a := a) (b := b) (hs := hs) (y :: t) ys (some x) (by simp)
    rw [List.getLast_cons (by simp)]
    show (hasB W H hs x && (match o with | none => true | some q => leapB W a b q x) && goesB W H hs a b (some x) ((y :: t) ++ ys)) = ((hasB W H hs x && (match o with | none => true | some q => leapB W a b q x) && goesB W H hs a b (some x) (y :: t)) && goesB W H hs a b (some ((y :: t).getLast (by simp))) ys)
    rw [ih]
    simp only [Bool.and_assoc]
end Go.Proofs.YtjlcaggnfocabaaGreat

namespace Go.Proofs.YtjlcaggnfocabaaGreat
open Go.RowKit

/-- A row of slices: each of them reads as its list. -/
def WalksAt (w : World) (g : Nat) (pss : List (List Int)) : Prop := g < w.heap.size ∧ ∀ i ps, pss[i]? = some ps → ∃ A n c, w.cell? ⟨g, i, none⟩ = some (.slice A n c) ∧ Rd w A n ps
theorem WalksAt.keep {w w' : World} {g : Nat} {pss : List (List Int)} (h : WalksAt w g pss) (hb : Below w.heap.size w w') : WalksAt w' g pss :=
  ⟨lt_keep h.1 hb, fun i ps hi => by obtain ⟨A, n, c, h1, h2⟩ := h.2 i ps hi; exact ⟨A, n, c, cell_keep h1 h.1 hb, h2.keep hb⟩⟩
def wkAt (W H : Int) (hs : List Int) (a b : Int) (pss : List (List Int)) (i : Nat) : Bool := walkB W H hs a b (pss.getD i []) && apartB (pss.take i).flatten (pss.getD i [])
def wksB (W H : Int) (hs : List Int) (a b : Int) (pss : List (List Int)) : Bool := (List.range pss.length).all (wkAt W H hs a b pss)
theorem wks_one (W H : Int) (hs : List Int) (a b : Int) (ps : List Int) : wksB W H hs a b [ps] = walkB W H hs a b ps := by
  simp [wksB, wkAt, List.range_succ, apart_nil]
theorem wks_two (W H : Int) (hs : List Int) (a b : Int) (ps qs : List Int) : wksB W H hs a b [ps, qs] = (walkB W H hs a b ps && walkB W H hs a b qs && apartB ps qs) := by
  simp [wksB, wkAt, List.range_succ, apart_nil, Bool.and_assoc]
theorem walk_path2 {W H a b : Int} {hs ps : List Int} (h : walkB W H hs a b ps = true) : pathB W H hs a b ps = true := by
  simp only [walkB, Bool.and_eq_true] at h; exact h.1

end Go.Proofs.YtjlcaggnfocabaaGreat

namespace Go.Proofs.YtjlcaggnfocabaaGreat
open Go.RowKit

def okPa (W H : Int) (xs : List Int) (a b : Int) (ps : List Int) : Bool := twoV W H xs a b && pathB W H xs a b ps
def lenB2 (ps : List Int) : Bool := decide (ps.length = 2)
theorem leapB_irr' {W a b p : Int} (hl : leaperB a b = true) : leapB W a b p p = false := by
  have h := hl
  simp only [leaperB, decide_eq_true_eq] at h
  simp only [leapB, Int.sub_self, absV, decide_eq_false_iff_not]
  simp; omega
theorem goes_leapJ {W H a b : Int} {hs : List Int} : ∀ (ps : List Int) (o : Option Int) (i : Nat) (x y : Int), goesB W H hs a b o ps = true → ps[i]? = some x → ps[i + 1]? = some y → leapB W a b x y = true
  | [], _, _, _, _, _, h, _ => by simp at h
  | [_], _, i, _, _, _, _, h => by simp at h
  | c :: d :: t, o, 0, x, y, h, h1, h2 => by
    simp only [List.getElem?_cons_zero, List.getElem?_cons_succ, Option.some.injEq] at h1 h2
    subst h1 h2
    simp only [goesB, Bool.and_eq_true] at h
    exact h.2.1.2
  | c :: d :: t, o, i + 1, x, y, h, h1, h2 => by
    have h3 : goesB W H hs a b (some c) (d :: t) = true := by
      simp only [goesB, Bool.and_eq_true] at h ⊢
      exact ⟨⟨h.2.1.1, h.2.1.2⟩, h.2.2⟩
    exact goes_leapJ (d :: t) (some c) i x y h3 (by simpa using h1) (by simpa using h2)
theorem leap_ne {W a b p q : Int} (hl : leaperB a b = true) (h : leapB W a b p q = true) : p ≠ q := fun e => by rw [e, leapB_irr' hl] at h; cases h
theorem two_leaper {W H a b : Int} {xs : List Int} (h : twoV W H xs a b = true) : leaperB a b = true := by simp only [twoV, Bool.and_eq_true] at h; exact h.2
theorem path_ne {W H a b : Int} {xs ps : List Int} (ht : twoV W H xs a b = true) (h : pathB W H xs a b ps = true) : ∀ i, i + 1 < ps.length → ps.getD i 0 ≠ ps.getD (i + 1) 0 := fun i hi => by
  have hx : ps[i]? = some ps[i] := List.getElem?_eq_getElem (by omega)
  have hy : ps[i + 1]? = some ps[i + 1] := List.getElem?_eq_getElem hi
  simp only [pathB, Bool.and_eq_true] at h
  rw [List.getD_eq_getElem?_getD, List.getD_eq_getElem?_getD, hx, hy]
  exact leap_ne (two_leaper ht) (goes_leapJ ps none i _ _ h.2 hx hy)
theorem okPa_two {W H a b : Int} {xs ps : List Int} (h : okPa W H xs a b ps = true) : twoV W H xs a b = true := by simp only [okPa, Bool.and_eq_true] at h; exact h.1
theorem okPa_path {W H a b : Int} {xs ps : List Int} (h : okPa W H xs a b ps = true) : pathB W H xs a b ps = true := by simp only [okPa, Bool.and_eq_true] at h; exact h.2
theorem okPa_W {W H a b : Int} {xs ps : List Int} (h : okPa W H xs a b ps = true) : 1 ≤ W ∧ W ≤ 8 := (goodB_iff.1 (two_gK (okPa_two h))).1
theorem okPa_64 {W H a b : Int} {xs ps : List Int} (h : okPa W H xs a b ps = true) : ∀ x ∈ ps, 0 ≤ x ∧ x < 64 := path_64 (two_gK (okPa_two h)) (okPa_path h)
theorem okPa_len {W H a b : Int} {xs ps : List Int} (h : okPa W H xs a b ps = true) : 1 ≤ ps.length ∧ ps.length ≤ 64 := path_len (okPa_path h)
theorem okPa_ne {W H a b : Int} {xs ps : List Int} (h : okPa W H xs a b ps = true) : ∀ i, i + 1 < ps.length → ps.getD i 0 ≠ ps.getD (i + 1) 0 := path_ne (okPa_two h) (okPa_path h)

set_option maxRecDepth 100000 in
set_option maxHeartbeats 1000000 in
theorem isPathOn_any (W H : Int) (A : Option Addr) (n c : Nat) (xs : List Int) (a b : Int) (A2 : Option Addr) (m c2 : Nat) (ps : List Int) (w : World) (ha : Rd w A n xs) (hp : Rd w A2 m ps) :
    Calls Tryz.prog 43 #[brd W H A n c, lpr a b, .slice A2 m c2] w fun e w' => e = .returned (.bool (okPa W H xs a b ps)) ∧ Below w.heap.size w w' := by
  by_cases ht : twoV W H xs a b = true
  · go_enter Tryz.func43, Tryz.ntmps43
    go_wp2_with fail
    refine (isOn0_any _ _ _ _ _ _ _ _ _ ((ha.alloc _).alloc _)).mono ?_
    rw [ht]
    rintro e wv ⟨rfl, hb⟩
    have hbx0 := below_box hb
    have a0 : wv.cell? ⟨w.heap.size, 0, none⟩ = some (.int .i64 W) := by simpa using newbox hbx0 0
    have a1 : wv.cell? ⟨w.heap.size, 1, none⟩ = some (.int .i64 H) := by simpa using newbox hbx0 1
    have a2 : wv.cell? ⟨w.heap.size, 2, none⟩ = some (.slice A n c) := by simpa using newbox hbx0 2
    have al : w.heap.size < wv.heap.size := by simpa using newbox_lt hbx0
    have l0 : wv.cell? ⟨w.heap.size + 1, 0, none⟩ = some (.int .i64 a) := by simpa using newbox hb 0
    have l1 : wv.cell? ⟨w.heap.size + 1, 1, none⟩ = some (.int .i64 b) := by simpa using newbox hb 1
    have ll : w.heap.size + 1 < wv.heap.size := by simpa using newbox_lt hb
    have B := Lib.hid (below_box hbx0)
    clear hb hbx0
    have HT := Lib.hid ht
    clear ht
    go_wp2_with fail
    refine (isPath_any W H A n c xs a b A2 m c2 ps _ (ha.keep B.out) (hp.keep B.out) (two_gK HT.out)).mono ?_
    rintro e wv ⟨rfl, hb⟩
    replace B := Lib.hid (below_next B.out hb)
    clear hb
    go_wp2
    go_ret
    exact ⟨ret_bool (by rw [okPa, HT.out]; rfl), B.out⟩
  · have ht' : twoV W H xs a b = false := by simpa using ht
    go_enter Tryz.func43, Tryz.ntmps43
    go_wp2_with fail
    refine (isOn0_any _ _ _ _ _ _ _ _ _ ((ha.alloc _).alloc _)).mono ?_
    rw [ht']
    rintro e wv ⟨rfl, hb⟩
    have hbx0 := below_box hb
    have a0 : wv.cell? ⟨w.heap.size, 0, none⟩ = some (.int .i64 W) := by simpa using newbox hbx0 0
    have a1 : wv.cell? ⟨w.heap.size, 1, none⟩ = some (.int .i64 H) := by simpa using newbox hbx0 1
    have a2 : wv.cell? ⟨w.heap.size, 2, none⟩ = some (.slice A n c) := by simpa using newbox hbx0 2
    have al : w.heap.size < wv.heap.size := by simpa using newbox_lt hbx0
    have l0 : wv.cell? ⟨w.heap.size + 1, 0, none⟩ = some (.int .i64 a) := by simpa using newbox hb 0
    have l1 : wv.cell? ⟨w.heap.size + 1, 1, none⟩ = some (.int .i64 b) := by simpa using newbox hb 1
    have ll : w.heap.size + 1 < wv.heap.size := by simpa using newbox_lt hb
    have B := Lib.hid (below_box hbx0)
    clear hb hbx0
    go_wp2
    go_ret
    exact ⟨ret_bool (by rw [okPa, ht']; rfl), B.out⟩

set_option maxRecDepth 100000 in
set_option maxHeartbeats 1000000 in
theorem crLeap_any (W H : Int) (A : Option Addr) (n c : Nat) (xs : List Int) (a b : Int) (A2 : Option Addr) (m c2 : Nat) (ps : List Int) (w : World) (ha : Rd w A n xs) (hp : Rd w A2 m ps) (hg : goodB W H xs = true) :
    Calls Tryz.prog 19 #[brd W H A n c, lpr a b, .slice A2 m c2] w fun e w' => e = .returned (.bool (lenB2 ps && pathB W H xs a b ps)) ∧ Below w.heap.size w w' := by
  have HPL := Lib.hid hp.1
  by_cases h2 : m = 2
  · have HL := Lib.hid (show lenB2 ps = true from decide_eq_true (by rw [hp.1, h2]))
    subst h2
    go_enter Tryz.func19, Tryz.ntmps19
    go_wp2_with fail
    refine (boPath_any W H A n c xs a b A2 _ c2 ps _ ((ha.alloc _).alloc _) ((hp.alloc _).alloc _) hg).mono ?_
    rintro e wv ⟨rfl, hb⟩
    have B := Lib.hid (below_box (below_box hb))
    clear hb
    go_wp2
    go_ret
    exact ⟨ret_bool (by rw [HL.out]; rfl), B.out⟩
  · have HL := Lib.hid (show lenB2 ps = false from decide_eq_false (by rw [hp.1]; exact h2))
    have h3 : ((m : Int) == 2) = false := by rw [beq_eq_false_iff_ne]; omega
    go_enter Tryz.func19, Tryz.ntmps19
    go_wp2
    go_ret
    exact ⟨ret_bool (by rw [HL.out]; rfl), below_new (below_new (Below.refl _ _) _) _⟩

set_option maxRecDepth 100000 in
set_option maxHeartbeats 1000000 in
theorem isLeapOn_any (W H : Int) (A : Option Addr) (n c : Nat) (xs : List Int) (a b : Int) (A2 : Option Addr) (m c2 : Nat) (ps : List Int) (w : World) (ha : Rd w A n xs) (hp : Rd w A2 m ps) :
    Calls Tryz.prog 23 #[brd W H A n c, lpr a b, .slice A2 m c2] w fun e w' => e = .returned (.bool (lenB2 ps && okPa W H xs a b ps)) ∧ Below w.heap.size w w' := by
  have HPL := Lib.hid hp.1
  by_cases h2 : m = 2
  · have HL := Lib.hid (show lenB2 ps = true from decide_eq_true (by rw [hp.1, h2]))
    subst h2
    go_enter Tryz.func23, Tryz.ntmps23
    go_wp2_with fail
    refine (isPathOn_any W H A n c xs a b A2 _ c2 ps _ ((ha.alloc _).alloc _) ((hp.alloc _).alloc _)).mono ?_
    rintro e wv ⟨rfl, hb⟩
    have B := Lib.hid (below_box (below_box hb))
    clear hb
    go_wp2
    go_ret
    exact ⟨ret_bool (by rw [HL.out]; rfl), B.out⟩
  · have HL := Lib.hid (show lenB2 ps = false from decide_eq_false (by rw [hp.1]; exact h2))
    have h3 : ((m : Int) == 2) = false := by rw [beq_eq_false_iff_ne]; omega
    go_enter Tryz.func23, Tryz.ntmps23
    go_wp2
    go_ret
    exact ⟨ret_bool (by rw [HL.out]; rfl), below_new (below_new (Below.refl _ _) _) _⟩

def okDo (W H : Int) (xs : List Int) (a b : Int) (ps qs : List Int) : Bool := twoV W H xs a b && ((lenB2 ps && pathB W H xs a b ps) && (lenB2 qs && pathB W H xs a b qs))
def doV (W H : Int) (xs : List Int) (a b : Int) (ps qs : List Int) : Bool := okDo W H xs a b ps qs && doB W (ps.getD 0 0) (ps.getD 1 0) (qs.getD 0 0) (qs.getD 1 0)
theorem okDo_impl (W H : Int) (xs : List Int) (a b : Int) (ps qs : List Int) : okDo W H xs a b ps qs = ((lenB2 ps && okPa W H xs a b ps) && (lenB2 qs && okPa W H xs a b qs)) := by
  rw [okDo, okPa, okPa]; cases twoV W H xs a b <;> simp
theorem lenB2_of {ps : List Int} (h : lenB2 ps = true) : ps.length = 2 := by simpa [lenB2] using h

end Go.Proofs.YtjlcaggnfocabaaGreat

namespace Go.Proofs.YtjlcaggnfocabaaGreat
open Go.RowKit Go.Maps

/-- An element reads as itself. -/
def rawR (v : Value) : Option (DataW Value × List MemPlace) := some (.held v, [])
/-- Block b of w is a map from ints with at most n entries; under x it gives f x (z: what it gives where there is no entry). -/
def MapI (P : Program) (k : TypeId) (w : World) (b n : Nat) (z : Value) (f : Int → Value) : Prop :=
  ∃ D : DataW Value, w.ownsMap P k rawR b n D ∧ IsMap D ∧ ∀ x, D.atKey (.int .i64 x) (.held z) = .held (f x)

section
variable {P : Program} {k e t : TypeId} {w w' : World} {b n : Nat} {z : Value} {f : Int → Value}
theorem MapI.made (P : Program) (k : TypeId) (w : World) (z : Value) : MapI P k (w.alloc (.map #[] 0)) w.heap.size 0 z (fun _ => z) :=
  ⟨_, World.ownsMap_made _ _ _ _, isMap_empty, fun _ => rfl⟩
theorem MapI.lt (h : MapI P k w b n z f) : b < w.heap.size := by obtain ⟨D, h, _⟩ := h; exact h.lt
theorem MapI.other {row : Option Nat} (h : MapI P k w b n z f) (hg : w.grownBy w' row) (hne : some b ≠ row) : MapI P k w' b n z f := by
  obtain ⟨D, h1, h2, h3⟩ := h
  exact ⟨D, h1.kept hg hne, h2, h3⟩
theorem MapI.keep (h : MapI P k w b n z f) (hb : Below w.heap.size w w') : MapI P k w' b n z f := h.other (grown_of_below hb none) (by simp)
theorem MapI.lookup (h : MapI P k w b n z f) (hk : P.underlying k = some (.int .i64)) (ht : P.underlying t = some (.map k e)) (hz : (zeroValue e).run P w = .ok z w) {x : Int} (hx : (Lit.int .i64 x).wf = true) :
    (Instr.lookup t (.map (some b)) (.int .i64 x) false).run P w = .ok (f x) w := by
  obtain ⟨D, h1, h2, h3⟩ := h
  obtain ⟨v, ps, hr, hv⟩ := h1.lookup (int_keyed hk) ht hz (show rawR z = some (.held z, []) from rfl) (keyOf_int_mk hk hx)
  rw [h3 x] at hv
  injection hv with hv
  injection hv with hv _
  injection hv with hv
  rw [hr, hv]
theorem wpList_update {ops : Array Oper} {rest : List Oper} {o : Oper} {a : Act} {Q : Exit → Act → World → Prop}
    (hg : o.guard = none) (m x v : Operand) (hop : o.op = Op.mapUpdate t m x v) (hk : P.underlying k = some (.int .i64)) (ht : P.underlying t = some (.map k e))
    (hm : a.eval m = .map (some b)) (hown : MapI P k w b n z f) (hn : n < 1000000) (q : Int) (val : Value) (hx : a.eval x = .int .i64 q) (hv : a.eval v = val) (hq : (Lit.int .i64 q).wf = true)
    (hK : ∀ w', MapI P k w' b (n + 1) z (fun y => if y = q then val else f y) → w.grownBy w' (some b) → wpList P ops Q rest (a.put o.dst undef) w') :
    wpList P ops Q (o :: rest) a w := by
  obtain ⟨D, h1, h2, h3⟩ := hown
  refine wpList_mapUpdate_own w hg m x v t hop k e (int_keyed hk) ht rawR b n D hm h1 (by unfold maxLen; omega) _ _ (.int .i64 q) hx hv (keyOf_int_mk hk hq) (.held val) [] rfl ?_
  intro w' hw hgr
  refine hK w' ⟨_, hw, h2.put _ _, fun y => ?_⟩ hgr
  show _ = DataW.held (if y = q then val else f y)
  by_cases e : y = q
  · subst e
    rw [if_pos rfl]
    exact atKey_put_same h2 (by trivial) _ _
  · rw [if_neg e, atKey_put_other (fun h => e (by injection h)) _ _]
    exact h3 y
end

end Go.Proofs.YtjlcaggnfocabaaGreat
