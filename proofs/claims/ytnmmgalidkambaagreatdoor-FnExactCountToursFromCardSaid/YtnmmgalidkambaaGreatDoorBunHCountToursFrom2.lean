/-
  Contracts: the model's search for tours: what its struct holds; whether all cells that are left hang together with one.
  Memory and pure facts for the model's search for tours going on to a cell.
  append of a part of a list onto a row of the call's own (for l1Put).
  Contracts: a list of the call's own with the same numbers (the model).
  Contracts: the model's search for tours goes on to a cell.
  Contracts: the cells to which a leaper leaps, and degrees, in the model.
  Contracts: the model's search for tours from a cell.
-/
import Derived.Test.YtnmmgalidkambaaGreatDoorBunHCountToursFrom1
import Derived.Test.YtnmmgalidkambaaGreatDoorK1
import Derived.Test.YtnmmgalidkambaaGreatDoorE0
import Derived.Maps.AppendAt
import Derived.Test.YtnmmgalidkambaaGreatDoorApp
import Derived.Test.YtnmmgalidkambaaGreatDoorB4
import Derived.Test.YtnmmgalidkambaaGreatDoorS8
import Derived.Test.YtnmmgalidkambaaGreatDoorB11
import Derived.Test.YtnmmgalidkambaaGreatDoorE4
namespace Go.Proofs.YtnmmgalidkambaaGreatDoor
open Go.RowKit

/-- A search in the midst of its work: the leaps from each cell, which are visited, the path, how many are left, what it looks for, and what it found. -/
structure SrAt (w : World) (LB tb lb vb N : Nat) (adj : Int → List Int) (cells path : List Int) (A : Option Addr) (n c left : Nat) (cl fi : Bool) (cnt : Nat) (F : Option Addr) (nf cf : Nat) : Prop where
  st : w.heap[tb]? = some (.cells #[.slice (some ⟨lb, 0, none⟩) N N, .slice (some ⟨vb, 0, none⟩) N N, .slice A n c, .int .i64 (left : Int), .bool cl, .bool fi, .int .i64 (cnt : Int), .slice F nf cf] 51 (0, 0))
  vis : w.heap[vb]? = some (.cells ((boolRow (fun i => path.contains (i : Int)) N).map Value.bool).toArray 4 (0, 0))
  lps : ∀ x ∈ cells, ∃ A' n' c', w.cell? ⟨lb, x.toNat, none⟩ = some (.slice A' n' c') ∧ Rd w A' n' (adj x) ∧ ∀ a, A' = some a → a.block < LB ∧ a.block ≠ tb ∧ a.block ≠ vb
  lt : tb < LB ∧ vb < LB ∧ lb < LB ∧ tb ≠ vb ∧ tb ≠ lb ∧ vb ≠ lb ∧ LB ≤ w.heap.size
  ranges : (∀ y ∈ cells, 0 ≤ y ∧ y < (N : Int)) ∧ 1 ≤ N ∧ N ≤ 64 ∧ (∀ q, ∀ y ∈ adj q, y ∈ cells) ∧ cells.Nodup
section
variable {w w' : World} {LB tb lb vb N : Nat} {adj : Int → List Int} {cells path : List Int} {A : Option Addr} {n c left : Nat} {cl fi : Bool} {cnt : Nat} {F : Option Addr} {nf cf : Nat}
theorem SrAt.keep (h : SrAt w LB tb lb vb N adj cells path A n c left cl fi cnt F nf cf) (hb : Below w.heap.size w w') : SrAt w' LB tb lb vb N adj cells path A n c left cl fi cnt F nf cf := by
  have hl := h.lt
  refine ⟨(hb.block tb (by omega)).trans h.st, (hb.block vb (by omega)).trans h.vis, fun x hx => ?_, ⟨hl.1, hl.2.1, hl.2.2.1, hl.2.2.2.1, hl.2.2.2.2.1, hl.2.2.2.2.2.1, Nat.le_trans hl.2.2.2.2.2.2 hb.size⟩, h.ranges⟩
  obtain ⟨A', n', c', h1, h2, h3⟩ := h.lps x hx
  exact ⟨A', n', c', cell_keep h1 (by omega) hb, h2.keep hb, h3⟩
theorem nodup_most {N : Nat} {l : List Int} (h : l.Nodup) (hr : ∀ x ∈ l, 0 ≤ x ∧ x < (N : Int)) : l.length ≤ N := nodup_len h (fun y hy => hr y hy)
theorem QOk.few {x : Int} {Q : List Int} (h : QOk path cells x Q) (hx : x ∈ path) (hin : ∀ y ∈ path, y ∈ cells) (hr : ∀ y ∈ cells, 0 ≤ y ∧ y < (N : Int)) : Q.length ≤ N ∧ ∀ y ∈ Q, y ∈ cells := by
  obtain ⟨R, rfl, h1, h2⟩ := h.form
  have hall : ∀ y ∈ x :: R, y ∈ cells := fun y hy => by
    rcases List.mem_cons.1 hy with rfl | h
    · exact hin _ hx
    · exact (h2 y h).2
  refine ⟨nodup_most (by rw [List.nodup_cons]; exact ⟨fun hm => (h2 x hm).1 hx, h1⟩) (fun y hy => hr y (hall y hy)), hall⟩
end
theorem bfsQ_many {adj : Int → List Int} {path : List Int} {x : Int} {k : Nat} (h : k ≤ (bfsQ adj path x k).length) : ∀ i, i ≤ k → i ≤ (bfsQ adj path x i).length := by
  induction k with
  | zero => intro i hi; omega
  | succ k ih =>
    intro i hi
    rcases Nat.lt_or_ge k (bfsQ adj path x k).length with h1 | h1
    · rcases Nat.lt_or_ge i (k + 1) with h2 | h2
      · exact ih (by omega) i (by omega)
      · rw [show i = k + 1 by omega]; exact h
    · have e : bfsQ adj path x (k + 1) = bfsQ adj path x k := by rw [bfsQ, List.getElem?_eq_none h1]
      rw [e] at h; omega

set_option maxRecDepth 100000 in
set_option maxHeartbeats 4000000 in
theorem can_any (w : World) (LB tb lb vb N : Nat) (adj : Int → List Int) (cells path : List Int) (A : Option Addr) (n c left : Nat) (cl fi : Bool) (cnt : Nat) (F : Option Addr) (nf cf x : Nat)
    (h : SrAt w LB tb lb vb N adj cells path A n c left cl fi cnt F nf cf) (hne : path ≠ []) (hwk : Walk adj path) (hin : ∀ y ∈ path, y ∈ cells) (hx : endOf path = (x : Int)) (hlen : cells.length = path.length + left) :
    Calls Tryz.prog 72 #[.pointer (some ⟨tb, 0, none⟩), .int .i64 (x : Int)] w fun e w' => ∃ r : Bool, e = .returned (.bool r) ∧ (r = false → allW adj left path = []) ∧ Below w.heap.size w w' := by
  have hxp : (x : Int) ∈ path := by
    rw [← hx, endOf, List.getD_eq_getElem?_getD, List.getElem?_eq_getElem (show path.length - 1 < path.length by cases path with | nil => exact absurd rfl hne | cons => simp)]
    exact List.getElem_mem _
  have hN := h.ranges
  have HQO := Lib.hid (fun k => QOk.bfs (path := path) (x := (x : Int)) hN.2.2.2.1 k)
  have HFEW := Lib.hid (fun k => (HQO.out k).few hxp hin hN.1)
  have HNO := Lib.hid (fun (Q : List Int) (hQ : QOk path cells (x : Int) Q) (hc : ∀ c ∈ Q, ∀ y ∈ adj c, y ∈ path ∨ y ∈ Q) (hn : Q.length ≠ left + 1) => can_no hne hwk hin hx hQ hc hlen hn)
  have HSR := Lib.hid h
  have hin9 := Lib.hid hin
  have hl20 : left ≤ 64 := by have := nodup_most hN.2.2.2.2 hN.1; omega
  have hN1 := hN.2.1
  have hN64 := hN.2.2.1
  have HADJ := Lib.hid hN.2.2.2.1; have HCR := Lib.hid hN.1
  have p1 : w.cell? ⟨tb, 1, none⟩ = some (.slice (some ⟨vb, 0, none⟩) N N) := by rw [cell_of_row _ _ _ _ _ _ h.st]; rfl
  obtain ⟨i0, hi, hz0, hz1, hz2⟩ := info_parts infoI
  have HI := Lib.hid hi; have HZ0 := Lib.hid hz0; have HZ1 := Lib.hid hz1; have HZ2 := Lib.hid hz2
  clear hi hz0 hz1 hz2
  obtain ⟨i1, hi, hz0, hz1, hz2⟩ := info_parts infoBl
  have HI1 := Lib.hid hi; have HZ10 := Lib.hid hz0; have HZ11 := Lib.hid hz1; have HZ12 := Lib.hid hz2
  clear hi hz0 hz1 hz2
  have hown : (w.alloc (.cells #[] 4)).ownsRow w.heap.size 4 1 (.slice (some ⟨w.heap.size, 0, none⟩) 0 0) 0 [] :=
    World.ownsRow_made (base := w.heap.size) (e := 4) (size := 1) w #[] 0 (Nat.le_refl _) (Nat.zero_le _) rfl
  have OWN := Lib.hid hown
  have HB := Lib.hid ((Below.refl w.heap.size w).alloc (Nat.le_refl _) (.cells #[] 4))
  replace p1 := cell_keep p1 (show tb < w.heap.size by have := h.lt; omega) ((Below.refl w.heap.size w).alloc (Nat.le_refl _) (.cells #[] 4))
  have HV := Lib.hid (show ∀ j u, ((boolRow (fun i => path.contains (i : Int)) N).map Value.bool)[j]? = some u → (w.alloc (.cells #[] 4)).cell? ((⟨vb, 0, none⟩ : Addr).add j) = some u from fun j u hj => by
    have h1 : (w.alloc (.cells #[] 4)).heap[vb]? = some (.cells ((boolRow (fun i => path.contains (i : Int)) N).map Value.bool).toArray 4 (0, 0)) := (HB.out.block vb (by have := h.lt; omega)).trans h.vis
    rw [show (⟨vb, 0, none⟩ : Addr).add j = ⟨vb, j, none⟩ by simp [Addr.add]; intro h; exact h.symm, cell_of_row _ _ _ _ _ _ h1, List.getElem?_toArray]; exact hj)
  have HVO := Lib.hid (show ∀ u ∈ (boolRow (fun i => path.contains (i : Int)) N).map Value.bool, u.oneCell' = true from fun u hu => by obtain ⟨z, _, rfl⟩ := List.mem_map.1 hu; rfl)
  have HVL := Lib.hid (show ((boolRow (fun i => path.contains (i : Int)) N).map Value.bool).length = N * 1 by simp [boolRow])
  obtain ⟨vis, hvis⟩ : ∃ vis, vis = (boolRow (fun i => path.contains (i : Int)) N).map Value.bool := ⟨_, rfl⟩
  have HVIS := Lib.hid hvis
  rw [← hvis] at HV HVO HVL
  clear hown h hvis hne hwk hin hlen hN
  go_enter Tryz.func72, Tryz.ntmps72
  go_wp2_with (at_builtin; refine wpList_append_own_at (w.alloc (.cells #[] 4)) rfl (.tmp 10) (.tmp 14) 49 rfl w.heap.size 4 i1 (.bool false) 1 1 Tryz.underlying49 HI1.out HZ10.out HZ11.out HZ12.out rfl (by decide) (.slice (some ⟨w.heap.size, 0, none⟩) 0 0) 0 [] rfl OWN.out ⟨vb, 0, none⟩ N N vis rfl HVL.out HV.out HVO.out (by unfold maxLen; omega) (by omega) (by simp) ?_; intro v9 w9 hown9 hgrow9 hnil9 hloc9)
  obtain ⟨sb, cs, rfl, hsb1, hsb2, hseen⟩ : ∃ sb cs, v9 = .slice (some ⟨sb, 0, none⟩) N cs ∧ w.heap.size ≤ sb ∧ sb < w9.heap.size ∧ OwnB 4 w9 w.heap.size (some ⟨sb, 0, none⟩) N cs (boolRow (fun i => path.contains (i : Int)) N) := by
    rw [Nat.zero_add, List.nil_append, HVIS.out] at hown9
    have h9 := hown9
    rcases hown9.2 with ⟨_, hn⟩ | ⟨g, cap, cur, hv, hb, hg, _⟩
    · omega
    · subst hv
      exact ⟨g, cap, rfl, hb, (Array.getElem?_eq_some_iff.1 hg).1, h9⟩
  have HB9 := Lib.hid (show Below w.heap.size w w9 from HB.out.grown hgrow9 (by simp) (fun q e => by
    have : q = w.heap.size := by simpa [Value.ownBlock] using e.symm
    omega))
  have HSEEN := Lib.hid hseen
  clear hown9 hgrow9 hnil9 hloc9 hseen OWN HV HVO HVL HVIS HB p1
  go_wp2
  obtain ⟨W4, hW4⟩ : ∃ W4, W4 = w9.alloc (.cells #[.int .i64 (x : Int)] 3) := ⟨_, rfl⟩
  have Q5 := Lib.hid (QAt.start (show OwnI 3 W4 w.heap.size (some ⟨w9.heap.size, 0, none⟩) 1 1 [(x : Int)] by
    rw [hW4]
    exact World.ownsRow_lit (base := w.heap.size) (e := 3) w9 (#[.int .i64 (x : Int)] : Array Value) 1 (size := 1) HB9.out.size (by decide) rfl))
  have HB4 := Lib.hid (show Below w.heap.size w W4 by rw [hW4]; exact below_new HB9.out _)
  have HS4 := Lib.hid (show OwnB 4 W4 w.heap.size (some ⟨sb, 0, none⟩) N cs (boolRow (fun i => (path ++ bfsQ adj path (x : Int) 0).contains (i : Int)) N) by
    rw [boolRow_congr (g := fun i => path.contains (i : Int)) (fun i _ => by
      rw [Bool.eq_iff_iff]; simp [bfsQ]; intro e; rw [e]; exact hxp), hW4]
    exact HSEEN.out.keep (below_new (Below.refl _ _) _))
  obtain ⟨gq0, hgq0⟩ : ∃ gq0, gq0 = w9.heap.size := ⟨_, rfl⟩
  rw [← hgq0] at Q5
  rw [← hW4, ← hgq0]
  have hqs : gq0 ≠ sb := by omega
  have hqw : w.heap.size ≤ gq0 := by have := HB9.out.size; omega
  clear hW4 hgq0 HSEEN HB9
  go_loopg [6, 7] 65 (fun gm s6 s7 wr => ∃ (k g k0 n2 c2 : Nat), k ≤ n2 ∧ n2 = (bfsQ adj path (x : Int) k).length ∧ 65 - k ≤ gm ∧ s7 = .int .i64 k ∧ s6 = .slice (some ⟨g, k0, none⟩) n2 c2 ∧ QAt 3 wr w.heap.size g k0 n2 c2 (bfsQ adj path (x : Int) k) ∧ OwnB 4 wr w.heap.size (some ⟨sb, 0, none⟩) N cs (boolRow (fun i => (path ++ bfsQ adj path (x : Int) k).contains (i : Int)) N) ∧ g ≠ sb ∧ Below w.heap.size w wr)
  case atStart => exact ⟨0, gq0, 0, 1, 1, by omega, rfl, by omega, rfl, rfl, Q5.out, HS4.out, hqs, HB4.out⟩
  case round =>
    clear Q5 HS4 HB4 hqs hqw hsb2
    obtain ⟨k, g, k0, n2, c2, hk2, hn2, hgm, rfl, rfl, hq, hseen, hgs, hbw⟩ := hrel
    have hf := (HFEW.out k)
    have hqle := hq.le
    have HN2 := Lib.hid hn2
    by_cases hkn : k < n2
    · obtain ⟨y, hy⟩ : ∃ y, (bfsQ adj path (x : Int) k)[k]? = some y := ⟨_, List.getElem?_eq_getElem (show k < (bfsQ adj path (x : Int) k).length by omega)⟩
      have hyc := hf.2 _ (List.mem_of_getElem? hy)
      have hyr := HCR.out _ hyc
      obtain ⟨yn, rfl⟩ : ∃ yn : Nat, y = (yn : Int) := ⟨y.toNat, by omega⟩
      have hsr := HSR.out.keep hbw
      obtain ⟨A3, n3, c3, hcell, hrow, _⟩ := HSR.out.lps _ hyc
      rw [Int.toNat_natCast] at hcell
      replace hcell := cell_keep hcell (by have := HSR.out.lt; omega) hbw
      have q0 : wr.cell? ⟨tb, 0, none⟩ = some (.slice (some ⟨lb, 0, none⟩) N N) := by rw [cell_of_row _ _ _ _ _ _ hsr.st]; rfl
      have cq := hq.cell hy
      have y0 : (0 : Int) ≤ (yn : Int) := by omega
      have y1 : (yn : Int) < (N : Int) := by omega
      have k0' : (0 : Int) ≤ (k : Int) := by omega
      have k1 : (k : Int) < (n2 : Int) := by omega
      have ROW := Lib.hid hrow
      have ROWL := Lib.hid hrow.1
      have n39 := hrow.2.1
      have hk65 : k < 65 := by omega
      have HY := Lib.hid hy; have HQ := Lib.hid hq; have HSE := Lib.hid hseen; have HBW := Lib.hid hbw
      have hn264 : n2 ≤ 64 := by omega
      clear hy hyc hyr hsr hrow hq hseen hbw hn2 hf
      go_wp2_with fail
      refine wp_region_held_drew (S := fun w' => w'.cell? ⟨tb, 0, none⟩ = some (.slice (some ⟨lb, 0, none⟩) N N) ∧ w'.cell? ⟨g, k0 + k, none⟩ = some (.int .i64 (yn : Int)) ∧ w'.cell? ⟨lb, yn, none⟩ = some (.slice A3 n3 c3)) (by kernel_rfl) ?_ (fun hHeld => ?_)
      · (try dsimp only)
        exact ⟨q0, cq, hcell⟩
      refine wpAnyH_take (i := 0) (oi := ⟨_, _, _, _, _, _⟩) (v := ?_) rfl (by kernel_rfl) (by kernel_rfl) (by kernel_rfl) (fun _ _ _ h => h) (Or.inl ⟨by rfl, ?_⟩) (by assumption) ?_
      rotate_left
      · intro w hSw
        (try dsimp only at hSw)
        obtain ⟨hSa, hSb, hSc⟩ := hSw
        go_simp
        (try with_reducible rfl)
      (try simp only [Act.put, List.setIfInBounds_toArray, List.set_cons_zero, List.set_cons_succ])
      refine wpAnyH_take (i := 1) (oi := ⟨_, _, _, _, _, _⟩) (v := ?_) rfl (by kernel_rfl) (by kernel_rfl) (by kernel_rfl) (fun _ _ _ h => h) (Or.inl ⟨by rfl, ?_⟩) (by assumption) ?_
      rotate_left
      · intro w hSw
        (try dsimp only at hSw)
        obtain ⟨hSa, hSb, hSc⟩ := hSw
        go_simp
        (try with_reducible rfl)
      (try simp only [Act.put, List.setIfInBounds_toArray, List.set_cons_zero, List.set_cons_succ])
      refine wpAnyH_take (i := 2) (oi := ⟨_, _, _, _, _, _⟩) (v := ?_) rfl (by kernel_rfl) (by kernel_rfl) (by kernel_rfl) (fun _ _ _ h => h) (Or.inl ⟨by rfl, ?_⟩) (by assumption) ?_
      rotate_left
      · intro w hSw
        (try dsimp only at hSw)
        obtain ⟨hSa, hSb, hSc⟩ := hSw
        go_simp
        (try with_reducible rfl)
      (try simp only [Act.put, List.setIfInBounds_toArray, List.set_cons_zero, List.set_cons_succ])
      refine wpAnyH_take (i := 3) (oi := ⟨_, _, _, _, _, _⟩) (v := ?_) rfl (by kernel_rfl) (by kernel_rfl) (by kernel_rfl) (fun _ _ _ h => h) (Or.inl ⟨by rfl, ?_⟩) (by assumption) ?_
      rotate_left
      · intro w hSw
        (try dsimp only at hSw)
        obtain ⟨hSa, hSb, hSc⟩ := hSw
        go_simp
        (try with_reducible rfl)
      (try simp only [Act.put, List.setIfInBounds_toArray, List.set_cons_zero, List.set_cons_succ])
      refine wpAnyH_take (i := 4) (oi := ⟨_, _, _, _, _, _⟩) (v := ?_) rfl (by kernel_rfl) (by kernel_rfl) (by kernel_rfl) (fun _ _ _ h => h) (Or.inl ⟨by rfl, ?_⟩) (by assumption) ?_
      rotate_left
      · intro w hSw
        (try dsimp only at hSw)
        obtain ⟨hSa, hSb, hSc⟩ := hSw
        go_simp
        (try with_reducible rfl)
      (try simp only [Act.put, List.setIfInBounds_toArray, List.set_cons_zero, List.set_cons_succ])
      refine wpAnyH_take (i := 5) (oi := ⟨_, _, _, _, _, _⟩) (v := ?_) rfl (by kernel_rfl) (by kernel_rfl) (by kernel_rfl) (fun _ _ _ h => h) (Or.inl ⟨by rfl, ?_⟩) (by assumption) ?_
      rotate_left
      · intro w hSw
        (try dsimp only at hSw)
        obtain ⟨hSa, hSb, hSc⟩ := hSw
        go_simp
        (try with_reducible rfl)
      (try simp only [Act.put, List.setIfInBounds_toArray, List.set_cons_zero, List.set_cons_succ])
      refine wpAnyH_take (i := 6) (oi := ⟨_, _, _, _, _, _⟩) (v := ?_) rfl (by kernel_rfl) (by kernel_rfl) (by kernel_rfl) (fun _ _ _ h => h) (Or.inl ⟨by rfl, ?_⟩) (by assumption) ?_
      rotate_left
      · intro w hSw
        (try dsimp only at hSw)
        obtain ⟨hSa, hSb, hSc⟩ := hSw
        go_simp
        (try with_reducible rfl)
      (try simp only [Act.put, List.setIfInBounds_toArray, List.set_cons_zero, List.set_cons_succ])
      refine wpAnyH_take (i := 7) (oi := ⟨_, _, _, _, _, _⟩) (v := ?_) rfl (by kernel_rfl) (by kernel_rfl) (by kernel_rfl) (fun _ _ _ h => h) (Or.inl ⟨by rfl, ?_⟩) (by assumption) ?_
      rotate_left
      · intro w hSw
        (try dsimp only at hSw)
        obtain ⟨hSa, hSb, hSc⟩ := hSw
        go_simp
        (try with_reducible rfl)
      (try simp only [Act.put, List.setIfInBounds_toArray, List.set_cons_zero, List.set_cons_succ])
      refine wpAnyH_take (i := 8) (oi := ⟨_, _, _, _, _, _⟩) (v := ?_) rfl (by kernel_rfl) (by kernel_rfl) (by kernel_rfl) (fun _ _ _ h => h) (Or.inl ⟨by rfl, ?_⟩) (by assumption) ?_
      rotate_left
      · intro w hSw
        (try dsimp only at hSw)
        obtain ⟨hSa, hSb, hSc⟩ := hSw
        go_simp
        (try with_reducible rfl)
      (try simp only [Act.put, List.setIfInBounds_toArray, List.set_cons_zero, List.set_cons_succ])
      refine wpAnyH_take (i := 9) (oi := ⟨_, _, _, _, _, _⟩) (v := ?_) rfl (by kernel_rfl) (by kernel_rfl) (by kernel_rfl) (fun _ _ _ h => h) (Or.inl ⟨by rfl, ?_⟩) (by assumption) ?_
      rotate_left
      · intro w hSw
        (try dsimp only at hSw)
        obtain ⟨hSa, hSb, hSc⟩ := hSw
        go_simp
        (try with_reducible rfl)
      (try simp only [Act.put, List.setIfInBounds_toArray, List.set_cons_zero, List.set_cons_succ])
      refine wpAnyH_take (i := 10) (oi := ⟨_, _, _, _, _, _⟩) (v := ?_) rfl (by kernel_rfl) (by kernel_rfl) (by kernel_rfl) (fun _ _ _ h => h) (Or.inl ⟨by rfl, ?_⟩) (by assumption) ?_
      rotate_left
      · intro w hSw
        (try dsimp only at hSw)
        obtain ⟨hSa, hSb, hSc⟩ := hSw
        go_simp
        (try with_reducible rfl)
      (try simp only [Act.put, List.setIfInBounds_toArray, List.set_cons_zero, List.set_cons_succ])
      refine wpAnyH_take (i := 11) (oi := ⟨_, _, _, _, _, _⟩) (v := ?_) rfl (by kernel_rfl) (by kernel_rfl) (by kernel_rfl) (fun _ _ _ h => h) (Or.inl ⟨by rfl, ?_⟩) (by assumption) ?_
      rotate_left
      · intro w hSw
        (try dsimp only at hSw)
        obtain ⟨hSa, hSb, hSc⟩ := hSw
        go_simp
        (try with_reducible rfl)
      (try simp only [Act.put, List.setIfInBounds_toArray, List.set_cons_zero, List.set_cons_succ])
      refine wpAnyH_done (by kernel_rfl) ?_ _

      clear hHeld q0 cq hcell
      go_wp2
      go_loopw [6, 35] (fun s6 s35 wx => ∃ (j g1 k1 nq cq : Nat), j ≤ n3 ∧ s35 = .int .i64 j ∧ s6 = .slice (some ⟨g1, k1, none⟩) nq cq ∧ nq = (((adj yn).take j).foldl (addQ path) (bfsQ adj path (x : Int) k)).length ∧ QAt 3 wx w.heap.size g1 k1 nq cq (((adj yn).take j).foldl (addQ path) (bfsQ adj path (x : Int) k)) ∧ OwnB 4 wx w.heap.size (some ⟨sb, 0, none⟩) N cs (boolRow (fun i => (path ++ ((adj yn).take j).foldl (addQ path) (bfsQ adj path (x : Int) k)).contains (i : Int)) N) ∧ g1 ≠ sb ∧ Below w.heap.size w wx) (fun _ s35 _ => n3 - (intOf s35).toNat)
      case atStart => exact ⟨0, g, k0, n2, c2, Nat.zero_le _, rfl, rfl, by rw [List.take_zero]; exact HN2.out, by rw [List.take_zero]; exact HQ.out, by rw [List.take_zero]; exact HSE.out, hgs, (by first | exact HBW.out | exact HBW.out.drew)⟩
      case round =>
        obtain ⟨j, g1, k1', nq, cq, hj, rfl, rfl, hlen, hq, hseen, hg1, hbw⟩ := hrel
        have hrow := ROW.out.keep hbw
        have HQOK := Lib.hid (show QOk path cells (x : Int) (((adj yn).take j).foldl (addQ path) (bfsQ adj path (x : Int) k)) from (HQO.out k).fold _ (fun z hz => HADJ.out _ _ (List.mem_of_mem_take hz)))
        obtain ⟨Q, hQe⟩ : ∃ Q, Q = ((adj yn).take j).foldl (addQ path) (bfsQ adj path (x : Int) k) := ⟨_, rfl⟩
        rw [← hQe] at hlen hq hseen HQOK
        have HQE := Lib.hid hQe
        clear hQe
        have hqf := (HQOK.out.few hxp hin9.out HCR.out).1
        by_cases hjl : j < n3
        · obtain ⟨b2, o2, y, rfl, hb2, hy, y0'⟩ := hrow.at_ hjl
          have hyr := HCR.out _ (HADJ.out _ _ (List.mem_of_getElem? hy))
          obtain ⟨y2, rfl⟩ : ∃ y2 : Nat, y = (y2 : Int) := ⟨y.toNat, by omega⟩
          have hy2 : y2 < N := by omega
          have y20 : (0 : Int) ≤ (y2 : Int) := by omega
          have y2N : (y2 : Int) < (N : Int) := by omega
          have j0 : (0 : Int) ≤ (j : Int) := by omega
          have jn : (j : Int) < (n3 : Int) := by omega
          have HY2 := Lib.hid hy
          have hcs := boolRow_at (f := fun i => (path ++ Q).contains (i : Int)) hy2
          have HEX := Lib.hid (take_foldQ (path := path) (Q := bfsQ adj path (x : Int) k) hy)
          cases hcb : (path ++ Q).contains (y2 : Int) with
          | false =>
            rw [hcb] at hcs
            have cs0 := hseen.cell hcs
            have fs0 := hseen.frozen y2
            have hsbl : sb < wr.heap.size := by
              rcases hseen.2 with ⟨hv, _⟩ | ⟨g9, cap, cur, hv, _, hg, _⟩
              · cases hv
              · injection hv with h1
                injection h1 with h1
                injection h1 with h1
                rw [h1]; exact (Array.getElem?_eq_some_iff.1 hg).1
            obtain ⟨o1, g2⟩ := hseen.stored y2 true
            have HE := Lib.hid (show addQ path Q (y2 : Int) = Q ++ [(y2 : Int)] by rw [addQ, if_neg (by rw [hcb]; simp)])
            have HS2 := Lib.hid (show OwnB 4 (wr.setCell ⟨sb, y2, none⟩ (.bool true)) w.heap.size (some ⟨sb, 0, none⟩) N cs (boolRow (fun i => (path ++ (Q ++ [(y2 : Int)])).contains (i : Int)) N) by
              rw [boolRow_set] at o1
              rw [boolRow_congr (g := fun i => if i = y2 then true else (path ++ Q).contains (i : Int)) (fun i _ => by
                rw [Bool.eq_iff_iff]
                by_cases e : i = y2
                · subst e; simp
                · have : (i : Int) ≠ (y2 : Int) := by omega
                  simp [e, this])]
              exact o1)
            have HQ2 := Lib.hid (hq.other g2 (by simp; omega))
            have HB2 := Lib.hid (show Below w.heap.size w (wr.setCell ⟨sb, y2, none⟩ (.bool true)) from hbw.grown g2 hbw.size (fun q e => by cases e; exact hsb1))
            have HLEN := Lib.hid hlen
            have hnq : nq ≤ 64 := by omega
            have hbsz := hbw.size
            clear hcs hcb hseen o1 g2 hq hlen hrow hy hbw
            go_wp2_with (at_builtin; refine wpList_appQ rfl (.tmp 47) (.tmp 49) 22 rfl i0 Tryz.underlying22 HI.out HZ0.out HZ1.out HZ2.out (y2 : Int) rfl HQ2.out (by rw [size_setCell']; rfl) (by omega) (by rw [size_setCell']; omega) ?_; intro g3 k3 c4 w3 hq3 hg3 hor)
            have hgl := HQ2.out.lt
            rw [size_setCell'] at hor hgl
            have hg3s : g3 ≠ sb := by omega
            have HQ3 := Lib.hid hq3
            have HS3 := Lib.hid (HS2.out.other hg3 (fun a ha => by injection ha with ha; rw [← ha]; simp; omega))
            have HB3 := Lib.hid (show Below w.heap.size w w3 from HB2.out.grown hg3 HB2.out.size (fun q e => by cases e; exact hgl.1))
            clear hq3 hg3 hor
            go_wp2
            go_roundw
            case rel => exact ⟨j + 1, g3, k3, nq + 1, c4, by omega, by go_num, rfl, by rw [HEX.out, ← HQE.out, HE.out, HLEN.out]; simp, by rw [HEX.out, ← HQE.out, HE.out]; exact HQ3.out, by rw [HEX.out, ← HQE.out, HE.out]; exact HS3.out, hg3s, HB3.out⟩
            case measure => simp [intOf]; omega
          | true =>
            rw [hcb] at hcs
            have cs0 := hseen.cell hcs
            have HE := Lib.hid (show addQ path Q (y2 : Int) = Q by rw [addQ, if_pos hcb])
            have HQ := Lib.hid hq; have HS := Lib.hid hseen; have HB := Lib.hid hbw; have HLEN := Lib.hid hlen
            clear hcs hcb hseen hq hlen hrow hy hbw
            go_wp2
            go_roundw
            case rel => exact ⟨j + 1, g1, k1', nq, cq, by omega, by go_num, rfl, by rw [HEX.out, ← HQE.out, HE.out]; exact HLEN.out, by rw [HEX.out, ← HQE.out, HE.out]; exact HQ.out, by rw [HEX.out, ← HQE.out, HE.out]; exact HS.out, hg1, HB.out⟩
            case measure => simp [intOf]; omega
        · have hjn : ¬ (j : Int) < (n3 : Int) := by omega
          have HE := Lib.hid (show bfsQ adj path (x : Int) (k + 1) = Q by rw [bfsQ_next HY.out, HQE.out, List.take_of_length_le (by have := ROWL.out; omega)])
          have HQ := Lib.hid hq; have HS := Lib.hid hseen; have HB := Lib.hid hbw; have HLEN := Lib.hid hlen
          have hkq : k + 1 ≤ nq := by
            have h1 := foldQ_pre (path := path) ((adj yn).take j) _ HY.out
            rw [← HQE.out] at h1
            have := (List.getElem?_eq_some_iff.1 h1).1; omega
          clear hseen hq hlen hrow hbw
          go_wp2
          go_roundg (65 - (k + 1))
          case measure => omega
          case rel => exact ⟨k + 1, g1, k1', nq, cq, hkq, by rw [HE.out]; exact HLEN.out, by omega, by go_num, rfl, by rw [HE.out]; exact HQ.out, by rw [HE.out]; exact HS.out, hg1, HB.out⟩
    · have hkn' : ¬ (k : Int) < (n2 : Int) := by omega
      have hsr := HSR.out.keep hbw
      have q3 : wr.cell? ⟨tb, 3, none⟩ = some (.int .i64 (left : Int)) := by rw [cell_of_row _ _ _ _ _ _ hsr.st]; rfl
      have HB := Lib.hid hbw
      have HFIN := Lib.hid (show n2 ≠ left + 1 → allW adj left path = [] from fun hn => HNO.out _ (HQO.out k) (fun c hc y hy => by
        obtain ⟨j, hj⟩ := List.mem_iff_getElem?.1 hc
        have hjl := (List.getElem?_eq_some_iff.1 hj).1
        exact bfsQ_done k (by omega) hj hy (.inr trivial) (bfsQ_many (by omega))) (by omega))
      by_cases hnl : n2 = left + 1
      · have ht : ((n2 : Int) == (left : Int) + 1) = true := by simp; omega
        clear hq hseen hn2 hqle hf hnl HN2
        go_wp2
        go_ret
        exact .inr ⟨rfl, HB.out⟩
      · have ht : ((n2 : Int) == (left : Int) + 1) = false := by simp; omega
        have HNL := Lib.hid hnl
        clear hq hseen hn2 hqle hf hnl HN2
        go_wp2
        go_ret
        exact .inl ⟨rfl, HFIN.out HNL.out, HB.out⟩
end Go.Proofs.YtnmmgalidkambaaGreatDoor

namespace Go.Proofs.YtnmmgalidkambaaGreatDoor
open Go.RowKit

theorem allW_few {adj : Int → List Int} {cells : List Int} (hadj : ∀ q, ∀ y ∈ adj q, y ∈ cells) (hnd : ∀ q, (adj q).Nodup) : ∀ (k : Nat) (p : List Int), p.Nodup → (∀ y ∈ p, y ∈ cells) → cells.length = p.length + k → (allW adj k p).length ≤ fac k
  | 0, p, _, _, _ => by simp [allW, fac]
  | k + 1, p, hp, hin, hl => by
    rw [allW_succ, List.length_flatMap]
    have hn : (nextL adj p (endOf p)).length ≤ k + 1 := by
      have h := sub_lenN (p ++ nextL adj p (endOf p)) cells (by
        rw [List.nodup_append]
        exact ⟨hp, (hnd _).filter _, fun a ha b hb e => (nextL_mem.1 hb).2 (e ▸ ha)⟩) (fun z hz => by
          rcases List.mem_append.1 hz with h | h
          · exact hin z h
          · exact hadj _ _ (nextL_mem.1 h).1)
      rw [List.length_append] at h; omega
    refine Nat.le_trans (sum_bd (f := fun y => (allW adj k (p ++ [y])).length) (B := fac k) (fun y hy => ?_)) (by rw [fac]; exact Nat.mul_le_mul_right _ hn)
    obtain ⟨h1, h2⟩ := nextL_mem.1 hy
    refine allW_few hadj hnd k _ ?_ (fun z hz => ?_) (by simp; omega)
    · rw [List.nodup_append]; exact ⟨hp, by simp, fun a ha b hb e => by rw [List.mem_singleton.1 hb] at e; exact h2 (e ▸ ha)⟩
    · rcases List.mem_append.1 hz with h | h
      · exact hin z h
      · rw [List.mem_singleton.1 h]; exact hadj _ _ h1
theorem scan_le (fi : Bool) : ∀ (l : List (List Int)) (st : Nat × List Int), (l.foldl (scanC fi) st).1 ≤ st.1 + l.length
  | [], _ => Nat.le_refl _
  | t :: l, st => by
    rw [List.foldl_cons, List.length_cons]
    have h := scan_le fi l (scanC fi st t)
    have h2 : (scanC fi st t).1 ≤ st.1 + 1 := by rw [scanC]; split <;> simp
    omega

/-- Below LB all blocks but two are what they were. -/
structure Kp (LB tb vb : Nat) (w w' : World) : Prop where
  os : w'.os = w.os
  tape : w'.tape = w.tape
  output : w'.output = w.output
  size : w.heap.size ≤ w'.heap.size
  block : ∀ q, q < LB → q ≠ tb → q ≠ vb → w'.heap[q]? = w.heap[q]?
section
variable {LB tb vb : Nat} {w w' w2 : World}
theorem Kp.refl (LB tb vb : Nat) (w : World) : Kp LB tb vb w w := ⟨rfl, rfl, rfl, Nat.le_refl _, fun _ _ _ _ => rfl⟩
theorem Kp.trans (h : Kp LB tb vb w w') (k : Kp LB tb vb w' w2) : Kp LB tb vb w w2 := ⟨k.os.trans h.os, k.tape.trans h.tape, k.output.trans h.output, Nat.le_trans h.size k.size, fun q h1 h2 h3 => (k.block q h1 h2 h3).trans (h.block q h1 h2 h3)⟩
theorem Kp.grown {row : Option Nat} (hg : w.grownBy w' row) (hL : LB ≤ w.heap.size) (hr : ∀ q, row = some q → LB ≤ q ∨ q = tb ∨ q = vb) : Kp LB tb vb w w' :=
  ⟨hg.os, hg.tape, hg.output, hg.size, fun q h1 h2 h3 => hg.block q (by omega) (fun e => by have := hr q e.symm; omega)⟩
theorem Kp.below (hb : Below w.heap.size w w') (hL : LB ≤ w.heap.size) : Kp LB tb vb w w' := Kp.grown (grown_of_below hb none) hL (fun q e => by cases e)
theorem Kp.rd {A : Option Addr} {n : Nat} {xs : List Int} (h : Kp LB tb vb w w') (hr : Rd w A n xs) (hA : ∀ a, A = some a → a.block < LB ∧ a.block ≠ tb ∧ a.block ≠ vb) : Rd w' A n xs := by
  refine ⟨hr.1, hr.2.1, fun k hk => ?_⟩
  obtain ⟨b, off, x, hA', hlt, hx, hc⟩ := hr.2.2 k hk
  have h3 := hA _ hA'
  exact ⟨b, off, x, hA', Nat.lt_of_lt_of_le hlt h.size, hx, (World.cell?_of_block (a := ⟨b, off + k, none⟩) (h.block b h3.1 h3.2.1 h3.2.2)).trans hc⟩
end
theorem SrAt.turned {w w' : World} {LB tb lb vb N : Nat} {adj : Int → List Int} {cells path path' : List Int} {A A' : Option Addr} {n c n' c' left left' : Nat} {cl fi cl' fi' : Bool} {cnt cnt' : Nat} {F F' : Option Addr} {nf cf nf' cf' : Nat}
    (h : SrAt w LB tb lb vb N adj cells path A n c left cl fi cnt F nf cf) (hk : Kp LB tb vb w w')
    (hs : w'.heap[tb]? = some (.cells #[.slice (some ⟨lb, 0, none⟩) N N, .slice (some ⟨vb, 0, none⟩) N N, .slice A' n' c', .int .i64 (left' : Int), .bool cl', .bool fi', .int .i64 (cnt' : Int), .slice F' nf' cf'] 51 (0, 0)))
    (hv : w'.heap[vb]? = some (.cells ((boolRow (fun i => path'.contains (i : Int)) N).map Value.bool).toArray 4 (0, 0))) : SrAt w' LB tb lb vb N adj cells path' A' n' c' left' cl' fi' cnt' F' nf' cf' := by
  have hl := h.lt
  refine ⟨hs, hv, fun x hx => ?_, ⟨hl.1, hl.2.1, hl.2.2.1, hl.2.2.2.1, hl.2.2.2.2.1, hl.2.2.2.2.2.1, Nat.le_trans hl.2.2.2.2.2.2 hk.size⟩, h.ranges⟩
  obtain ⟨A', n', c', h1, h2, h3⟩ := h.lps x hx
  exact ⟨A', n', c', (World.cell?_of_block (a := ⟨lb, x.toNat, none⟩) (hk.block lb hl.2.2.1 (Ne.symm hl.2.2.2.2.1) (Ne.symm hl.2.2.2.2.2.1))).trans h1, hk.rd h2 h3, h3⟩
theorem vis_set {path : List Int} {N x : Nat} (b : Bool) : ((boolRow (fun i => path.contains (i : Int)) N).map Value.bool).set x (.bool b) = (boolRow (fun i => if i = x then b else path.contains (i : Int)) N).map Value.bool := by
  rw [← List.map_set, boolRow_set]
theorem vis_push {path : List Int} {N x : Nat} : boolRow (fun i => if i = x then true else path.contains (i : Int)) N = boolRow (fun i => (path ++ [(x : Int)]).contains (i : Int)) N := boolRow_congr fun i _ => by
  rw [Bool.eq_iff_iff]
  by_cases e : i = x
  · subst e; simp
  · have : (i : Int) ≠ (x : Int) := by omega
    simp [e, this]
theorem vis_pop {path : List Int} {N x : Nat} (h : (x : Int) ∉ path) : boolRow (fun i => if i = x then false else (path ++ [(x : Int)]).contains (i : Int)) N = boolRow (fun i => path.contains (i : Int)) N := boolRow_congr fun i _ => by
  rw [Bool.eq_iff_iff]
  by_cases e : i = x
  · subst e; simp [h]
  · have : (i : Int) ≠ (x : Int) := by omega
    simp [e, this]
/-- The walks that go on by the first j leaps. -/
def goneW (adj : Int → List Int) (k : Nat) (p : List Int) (l : List Int) : List (List Int) := (l.filter fun y => !p.contains y).flatMap fun y => allW adj k (p ++ [y])
theorem goneW_all {adj : Int → List Int} {k : Nat} {p : List Int} : goneW adj k p (adj (endOf p)) = allW adj (k + 1) p := rfl
theorem goneW_no {adj : Int → List Int} {k j : Nat} {p l : List Int} {y : Int} (h : l[j]? = some y) (hp : p.contains y = true) : goneW adj k p (l.take (j + 1)) = goneW adj k p (l.take j) := by
  have hp' : y ∈ p := by simpa using hp
  rw [goneW, List.take_add_one, h, List.filter_append]
  simp [hp', goneW]
theorem goneW_yes {adj : Int → List Int} {k j : Nat} {p l : List Int} {y : Int} (h : l[j]? = some y) (hp : p.contains y = false) : goneW adj k p (l.take (j + 1)) = goneW adj k p (l.take j) ++ allW adj k (p ++ [y]) := by
  have hp' : y ∉ p := by simpa using hp
  rw [goneW, List.take_add_one, h, List.filter_append, List.flatMap_append]
  have e : (some y).toList.filter (fun y => !p.contains y) = [y] := by simp [hp']
  rw [e]; simp [goneW]
theorem goneW_few {adj : Int → List Int} {cells : List Int} (hadj : ∀ q, ∀ y ∈ adj q, y ∈ cells) (hnd : ∀ q, (adj q).Nodup) {k j : Nat} {p : List Int} {q y : Int} (hp : p.Nodup) (hin : ∀ y ∈ p, y ∈ cells) (hl : cells.length = p.length + (k + 1))
    (h : (adj q)[j]? = some y) (hy : p.contains y = false) : (goneW adj k p ((adj q).take j)).length + fac k ≤ fac (k + 1) := by
  have hy' : y ∉ p := by simpa using hy
  have hm : ∀ z ∈ ((adj q).take j).filter (fun y => !p.contains y), z ∈ adj q ∧ z ∉ p := fun z hz => by
    obtain ⟨h1, h2⟩ := List.mem_filter.1 hz
    exact ⟨List.mem_of_mem_take h1, by simpa using h2⟩
  have hn : (((adj q).take j).filter fun y => !p.contains y).length + 1 ≤ k + 1 := by
    have hsub : ((((adj q).take (j + 1)).filter fun y => !p.contains y)).Nodup := (List.Sublist.nodup (List.take_sublist _ _) (hnd q)).filter _
    rw [List.take_add_one, h, List.filter_append] at hsub
    have e : (some y).toList.filter (fun y => !p.contains y) = [y] := by simp [hy']
    rw [e] at hsub
    have h9 := sub_lenN (p ++ ((((adj q).take j).filter fun y => !p.contains y) ++ [y])) cells (by
      rw [List.nodup_append]
      refine ⟨hp, hsub, fun a ha b hb e => ?_⟩
      subst e
      rcases List.mem_append.1 hb with h1 | h1
      · exact (hm a h1).2 ha
      · rw [List.mem_singleton.1 h1] at ha; exact hy' ha) (fun z hz => by
        rcases List.mem_append.1 hz with h1 | h1
        · exact hin z h1
        · rcases List.mem_append.1 h1 with h2 | h2
          · exact hadj q z (hm z h2).1
          · rw [List.mem_singleton.1 h2]; exact hadj q y (List.mem_of_getElem? h))
    rw [List.length_append, List.length_append, List.length_singleton] at h9; omega
  have hb := sum_bd (f := fun z => (allW adj k (p ++ [z])).length) (B := fac k) (l := ((adj q).take j).filter fun y => !p.contains y) (fun z hz => by
    obtain ⟨h1, h2⟩ := hm z hz
    refine allW_few hadj hnd k _ ?_ (fun z' hz' => ?_) (by simp; omega)
    · rw [List.nodup_append]; exact ⟨hp, by simp, fun a ha b hb e => by rw [List.mem_singleton.1 hb] at e; exact h2 (e ▸ ha)⟩
    · rcases List.mem_append.1 hz' with h3 | h3
      · exact hin z' h3
      · rw [List.mem_singleton.1 h3]; exact hadj _ _ h1)
  rw [goneW, List.length_flatMap]
  have h8 : (((adj q).take j).filter fun y => !p.contains y).length * fac k + fac k ≤ (k + 1) * fac k := by
    rw [← Nat.succ_mul]; exact Nat.mul_le_mul_right _ hn
  rw [fac]; omega
end Go.Proofs.YtnmmgalidkambaaGreatDoor

namespace Go.Proofs.YtnmmgalidkambaaGreatDoor
open Go.RowKit

/-- append of a part of a list onto a row of the call's own. -/
theorem wpList_appN {P : Program} {w : World} {ops : Array Oper} {rest : List Oper} {o : Oper} {a : Act} {Q : Exit → Act → World → Prop} (hgd : o.guard = none) (s x : Operand) (T E : TypeId)
    (ho : o.op = .call { callee := .builtin .append, args := #[s, x], argTypes := #[T, T] }) (i0 : TypeInfo)
    (hT : P.underlying T = some (.slice E)) (hi : P.info? E = some i0) (hz0 : i0.zero = some (.int .i64 0)) (hz1 : i0.size = 1) (hz2 : i0.bytes = 8)
    (lo : Nat) (A : Option Addr) (n c : Nat) (xs : List Int) (ad : Addr) (m cy : Nat) (ys : List Int) (hs : a.eval s = .slice A n c) (hown : OwnI E w lo A n c xs) (hx : a.eval x = .slice (some ad) m cy) (hm : ys.length = m)
    (hy : ∀ j y, ys[j]? = some y → w.cell? (ad.add j) = some (.int .i64 y)) (hn : n + m ≤ 1000000) (hlo : lo ≤ w.heap.size)
    (h : ∀ A' c' w', OwnI E w' lo A' (n + m) c' (xs ++ ys) → Below lo w w' → wpList P ops Q rest (a.put o.dst (.slice A' (n + m) c')) w') :
    wpList P ops Q (o :: rest) a w := by
  refine wpList_append_own w hgd s x T ho lo E i0 (.int .i64 0) 1 8 hT hi hz0 hz1 hz2 rfl (by decide) (.slice A n c) n (xs.map (Value.int .i64)) hs hown
    ad m cy (ys.map (Value.int .i64)) hx (by rw [List.length_map, hm]; omega) (fun j u hj => ?_) (fun u hu => ?_) (by unfold maxLen; omega) (by omega) hlo ?_
  · rw [List.getElem?_map] at hj
    cases hq : ys[j]? with
    | none => rw [hq] at hj; cases hj
    | some y => rw [hq] at hj; injection hj with hj; rw [← hj]; exact hy j y hq
  · obtain ⟨y, _, rfl⟩ := List.mem_map.1 hu; rfl
  · intro v' w' hown' hgrow _
    rw [← List.map_append] at hown'
    obtain ⟨A', c', rfl, hO⟩ := own_form hown'
    exact h A' c' w' hO ((Below.refl _ _).grown hgrow hlo (fun k hk => (World.ownsRow.lt hown k hk).1))

end Go.Proofs.YtnmmgalidkambaaGreatDoor

namespace Go.Proofs.YtnmmgalidkambaaGreatDoor
open Go.RowKit

theorem l1Own_any (a1 : Addr) (n c : Nat) (ys : List Int) (w : World) (hy : Rd w (some a1) n ys) (h64 : n ≤ 1000) :
    Calls Tryz.prog 64 #[.slice (some a1) n c] w fun e w' => ∃ A' c', e = .returned (.slice A' n c') ∧ OwnI 3 w' w.heap.size A' n c' ys ∧ Below w.heap.size w w' := by
  obtain ⟨i0, hi, hz0, hz1, hz2⟩ := info_parts infoI
  have HI := Lib.hid hi; have HZ0 := Lib.hid hz0; have HZ1 := Lib.hid hz1; have HZ2 := Lib.hid hz2
  clear hi hz0 hz1 hz2
  go_enter Tryz.func64, Tryz.ntmps64
  have hown : OwnI 3 (w.alloc (.cells #[] 3)) w.heap.size (some ⟨w.heap.size, 0, none⟩) 0 0 [] :=
    World.ownsRow_made (base := w.heap.size) (e := 3) (size := 1) w #[] 0 (Nat.le_refl _) (Nat.zero_le _) rfl
  have OWN := Lib.hid hown
  have HY := Lib.hid (hy.alloc (.cells #[] 3))
  have HB := Lib.hid ((Below.refl w.heap.size w).alloc (Nat.le_refl _) (.cells #[] 3))
  clear hown hy
  go_wp2_with (at_builtin; refine wpList_appN rfl (.tmp 3) (.tmp 4) 22 3 rfl i0 Tryz.underlying22 HI.out HZ0.out HZ1.out HZ2.out w.heap.size _ 0 0 [] a1 n c ys rfl OWN.out rfl HY.out.1 (fun j y hj => HY.out.cell_ hj) (by omega) (by simp) ?_; intro A9 c9 w9 hown9 hb9)
  go_ret
  exact ⟨A9, c9, rfl, by simpa using hown9, HB.out.trans hb9⟩

theorem l1Own_all (A : Option Addr) (n c : Nat) (ys : List Int) (w : World) (hy : Rd w A n ys) (h64 : n ≤ 1000) :
    Calls Tryz.prog 64 #[.slice A n c] w fun e w' => ∃ A' c', e = .returned (.slice A' n c') ∧ OwnI 3 w' w.heap.size A' n c' ys ∧ Below w.heap.size w w' := by
  cases A with
  | some a1 => exact l1Own_any a1 n c ys w hy h64
  | none =>
    have hn : n = 0 := by
      rcases Nat.eq_zero_or_pos n with h | h
      · exact h
      · obtain ⟨_, _, _, hA, _⟩ := hy.2.2 0 h; cases hA
    subst hn
    have hys : ys = [] := List.eq_nil_of_length_eq_zero hy.1
    subst hys
    have hown : OwnI 3 (w.alloc (.cells #[] 3)) w.heap.size (some ⟨w.heap.size, 0, none⟩) 0 0 [] :=
      World.ownsRow_made (base := w.heap.size) (e := 3) (size := 1) w #[] 0 (Nat.le_refl _) (Nat.zero_le _) rfl
    have OWN := Lib.hid hown
    have HB := Lib.hid ((Below.refl w.heap.size w).alloc (Nat.le_refl _) (.cells #[] 3))
    clear hown hy
    go_enter Tryz.func64, Tryz.ntmps64
    go_wp2
    go_ret
    exact ⟨some ⟨w.heap.size, 0, none⟩, 0, rfl, OWN.out, HB.out⟩
theorem step_appN {P : Program} {w : World} {ops : Array Oper} {o : Oper} {a : Act} {K : Act → World → Prop} {Q : Exit → Act → World → Prop} {E0 : Prop} (hgd : o.guard = none) (s x : Operand) (T E : TypeId)
    (ho : o.op = .call { callee := .builtin .append, args := #[s, x], argTypes := #[T, T] }) (i0 : TypeInfo)
    (hT : P.underlying T = some (.slice E)) (hi : P.info? E = some i0) (hz0 : i0.zero = some (.int .i64 0)) (hz1 : i0.size = 1) (hz2 : i0.bytes = 8)
    (lo : Nat) (A : Option Addr) (n c : Nat) (xs : List Int) (ad : Addr) (m cy : Nat) (ys : List Int) (hs : a.eval s = .slice A n c) (hown : OwnI E w lo A n c xs) (hx : a.eval x = .slice (some ad) m cy) (hm : ys.length = m)
    (hy : ∀ j y, ys[j]? = some y → w.cell? (ad.add j) = some (.int .i64 y)) (hn : n + m ≤ 1000000) (hlo : lo ≤ w.heap.size)
    (h : ∀ A' c' w', OwnI E w' lo A' (n + m) c' (xs ++ ys) → Below lo w w' → K (a.put o.dst (.slice A' (n + m) c')) w') :
    if Region.wanted o (yielded ops a.tmps) = true then Oper.wp P o a w K Q else E0 := by
  have hw : Region.wanted o (yielded ops a.tmps) = true := by simp [Region.wanted, hgd]
  rw [if_pos hw]
  refine wp_append_own w s x T ho lo E i0 (.int .i64 0) 1 8 hT hi hz0 hz1 hz2 rfl (by decide) (.slice A n c) n (xs.map (Value.int .i64)) hs hown
    ad m cy (ys.map (Value.int .i64)) hx (by rw [List.length_map, hm]; omega) (fun j u hj => ?_) (fun u hu => ?_) (by unfold maxLen; omega) (by omega) hlo ?_
  · rw [List.getElem?_map] at hj
    cases hq : ys[j]? with
    | none => rw [hq] at hj; cases hj
    | some y => rw [hq] at hj; injection hj with hj; rw [← hj]; exact hy j y hq
  · obtain ⟨y, _, rfl⟩ := List.mem_map.1 hu; rfl
  · intro v' w' hown' hgrow _
    rw [← List.map_append] at hown'
    obtain ⟨A', c', rfl, hO⟩ := own_form hown'
    exact h A' c' w' hO ((Below.refl _ _).grown hgrow hlo (fun k hk => (World.ownsRow.lt hown k hk).1))
end Go.Proofs.YtnmmgalidkambaaGreatDoor

namespace Go.Proofs.YtnmmgalidkambaaGreatDoor
open Go.RowKit

/-- append of one number onto a row of the call's own, and which block it leaves changed. -/
theorem wpList_appR {P : Program} {w : World} {ops : Array Oper} {rest : List Oper} {o : Oper} {a : Act} {Q : Exit → Act → World → Prop} (hgd : o.guard = none) (s x : Operand) (T E : TypeId)
    (ho : o.op = .call { callee := .builtin .append, args := #[s, x], argTypes := #[T, T] }) (i0 : TypeInfo)
    (hT : P.underlying T = some (.slice E)) (hi : P.info? E = some i0) (hz0 : i0.zero = some (.int .i64 0)) (hz1 : i0.size = 1) (hz2 : i0.bytes = 8)
    (lo : Nat) (A : Option Addr) (n c : Nat) (xs : List Int) (q : Int) (hs : a.eval s = .slice A n c) (hown : OwnI E w lo A n c xs) (hx : a.eval x = .slice (some ⟨w.heap.size, 0, none⟩) 1 1)
    (hn : n ≤ 1000000) (hlo : lo ≤ w.heap.size)
    (h : ∀ A' c' w', OwnI E w' lo A' (n + 1) c' (xs ++ [q]) → w.grownBy w' (rowOf A) → (rowOf A' = rowOf A ∨ ∃ k, rowOf A' = some k ∧ w.heap.size ≤ k) → wpList P ops Q rest (a.put o.dst (.slice A' (n + 1) c')) w') :
    wpList P ops Q (o :: rest) a (w.alloc (.cells #[.int .i64 q] E)) := by
  refine wpList_append_own_at (w.alloc (.cells #[.int .i64 q] E)) hgd s x T ho lo E i0 (.int .i64 0) 1 8 hT hi hz0 hz1 hz2 rfl (by decide) (.slice A n c) n (xs.map (Value.int .i64)) hs (World.ownsRow.alloc hown _)
    ⟨w.heap.size, 0, none⟩ 1 1 [.int .i64 q] hx rfl (cell_one_new _ _ _) ?_ (by unfold maxLen; omega) (by omega) (by simp; omega) ?_
  · intro u hu; simp at hu; subst hu; rfl
  · intro v' w' hown' hgrow _ hrow
    have e : xs.map (Value.int .i64) ++ [.int .i64 q] = (xs ++ [q]).map (Value.int .i64) := by simp
    rw [e] at hown'
    obtain ⟨A', c', rfl, hO⟩ := own_form hown'
    have e1 : ∀ (A : Option Addr) (n c : Nat), (Value.slice A n c).ownBlock = rowOf A := fun A n c => by cases A <;> rfl
    rw [e1, e1] at hrow
    rw [e1] at hgrow
    refine h A' c' w' hO (grown_next (grown_of_below (below_new (Below.refl _ _) _) _) hgrow) ?_
    rcases hrow with h1 | h1
    · exact .inl h1
    · exact .inr ⟨_, h1, by simp⟩
theorem lt_of_at9 {w : World} {b : Nat} {o : Obj} (h : w.heap[b]? = some o) : b < w.heap.size := (Array.getElem?_eq_some_iff.1 h).1
theorem row_low {E : TypeId} {w : World} {lo : Nat} {A : Option Addr} {n c : Nat} {xs : List Int} (h : OwnI E w lo A n c xs) : ∀ k, rowOf A = some k → lo ≤ k ∧ k < w.heap.size := by
  intro k hk
  rcases h.form with ⟨h0, _⟩ | ⟨g, h1, h2, h3, _⟩
  · rw [h0] at hk; cases hk
  · rw [h1] at hk; injection hk with hk; rw [← hk]; exact ⟨h2, h3⟩
theorem OwnI.apart {E : TypeId} {w w' : World} {lo : Nat} {A : Option Addr} {n c : Nat} {xs : List Int} {row : Option Nat} (h : OwnI E w lo A n c xs) (hg : w.grownBy w' row) (hne : ∀ q, rowOf A = some q → row ≠ some q) : OwnI E w' lo A n c xs :=
  h.other hg (fun a ha e => hne a.block (by rw [ha]; rfl) e.symm)
/-- The found tour lies in another block than the path. -/
def Apart (A F : Option Addr) : Prop := ∀ q, rowOf F = some q → rowOf A ≠ some q

set_option maxRecDepth 100000 in
set_option maxHeartbeats 4000000 in
theorem go1_any (LB tb lb vb N : Nat) (adj : Int → List Int) (cells : List Int) (fi : Bool) (hnd : ∀ q, (adj q).Nodup) (k : Nat) :
    ∀ (w : World) (path found : List Int) (A : Option Addr) (n c cnt : Nat) (F : Option Addr) (nf cf x : Nat), SrAt w LB tb lb vb N adj cells path A n c (k + 1) false fi cnt F nf cf → OwnI 3 w LB A n c path → OwnI 3 w LB F nf cf found → Apart A F →
    Walk adj (path ++ [(x : Int)]) → (∀ y ∈ path ++ [(x : Int)], y ∈ cells) → cells.length = path.length + 1 + k → (fi = true → cnt = 0) → cnt + fac k ≤ 4000000000000000000 → k ≤ 19 →
    Calls Tryz.prog 53 #[.pointer (some ⟨tb, 0, none⟩), .int .i64 (x : Int)] w fun e w' => ∃ A' c' F' nf' cf', (∃ v, e = .returned v) ∧ SrAt w' LB tb lb vb N adj cells path A' n c' (k + 1) false fi ((allW adj k (path ++ [(x : Int)])).foldl (scanC fi) (cnt, found)).1 F' nf' cf' ∧
      OwnI 3 w' LB A' n c' path ∧ OwnI 3 w' LB F' nf' cf' ((allW adj k (path ++ [(x : Int)])).foldl (scanC fi) (cnt, found)).2 ∧ Apart A' F' ∧ Kp LB tb vb w w' := by
  induction k with
  | zero => 
    intro w path found A n c cnt F nf cf x h hown hfo hap hwk hin hlen hfi hcb hk19
    obtain ⟨l1, hl1⟩ : ∃ l1, l1 = 0 + 1 := ⟨_, rfl⟩
    obtain ⟨l0, hl0⟩ : ∃ l0, l0 = 0 := ⟨_, rfl⟩
    have HL1 := Lib.hid hl1; have HL0 := Lib.hid hl0
    rw [← hl1] at h ⊢
    have hsubk : IntKind.i64.wrap ((l1 : Int) - 1) = (l0 : Int) := by rw [IntKind.wrap_i64]; omega
    have haddk : IntKind.i64.wrap ((l0 : Int) + 1) = (l1 : Int) := by rw [IntKind.wrap_i64]; omega
    clear hl1 hl0
    have hN := h.ranges
    have hxN := hN.1 (x : Int) (hin _ (by simp))
    have hlt := h.lt
    have hn64 : n ≤ 64 := by have h1 := nodup_most hN.2.2.2.2 hN.1; have h2 := hown.len; omega
    have HNX := Lib.hid (show (x : Int) ∉ path from by have := hwk.1; rw [List.nodup_append] at this; exact fun hm => this.2.2 _ hm _ (by simp) rfl)
    obtain ⟨i0, hi, hz0, hz1, hz2⟩ := info_parts infoI
    have HI := Lib.hid hi; have HZ0 := Lib.hid hz0; have HZ1 := Lib.hid hz1; have HZ2 := Lib.hid hz2
    clear hi hz0 hz1 hz2
    have x0 : (0 : Int) ≤ (x : Int) := by omega
    have xN : (x : Int) < (N : Int) := by omega
    have t1 : w.cell? ⟨tb, 1, none⟩ = some (.slice (some ⟨vb, 0, none⟩) N N) := by rw [cell_of_row _ _ _ _ _ _ h.st]; rfl
    have v0 : w.cell? ⟨vb, x, none⟩ = some (.bool (path.contains (x : Int))) := by
      rw [cell_of_row _ _ _ _ _ _ h.vis, List.getElem?_toArray, List.getElem?_map, boolRow_at (f := fun i => path.contains (i : Int)) (by omega : x < N)]; rfl
    have v1 : w.frozen? ⟨vb, x, none⟩ = false := frozen_of_row _ _ _ _ _ h.vis
    -- behind the first store
    obtain ⟨S1, hS1⟩ : ∃ S1, S1 = w.setCell ⟨vb, x, none⟩ (.bool true) := ⟨_, rfl⟩
    have hgS1 : w.grownBy S1 (some vb) := by rw [hS1]; exact grown_set _ _ _ _
    have hk1 : Kp LB tb vb w S1 := Kp.grown hgS1 hlt.2.2.2.2.2.2 (fun q e => .inr (.inr (by injection e with e; exact e.symm)))
    have hst1 := (hgS1.block tb (by omega) (by simp; omega)).trans h.st
    have hvis1 : S1.heap[vb]? = some (.cells ((boolRow (fun i => (path ++ [(x : Int)]).contains (i : Int)) N).map Value.bool).toArray 4 (0, 0)) := by
      rw [hS1, heap_set _ h.vis]
      have e := vis_set (path := path) (N := N) (x := x) true
      rw [vis_push] at e
      rw [← e]; simp
    have hown1 : OwnI 3 S1 LB A n c path := hown.apart hgS1 (fun q hq e => by have := (row_low hown q hq).1; injection e with e; omega)
    have hfo1 : OwnI 3 S1 LB F nf cf found := hfo.apart hgS1 (fun q hq e => by have := (row_low hfo q hq).1; injection e with e; omega)
    have s2 : (S1.alloc (.cells #[.int .i64 (x : Int)] 3)).cell? ⟨tb, 2, none⟩ = some (.slice A n c) := cell_keep (w := S1) (by rw [cell_of_row _ _ _ _ _ _ hst1]; rfl) (lt_of_at9 hst1) (below_new (Below.refl _ _) _)
    have s2' : S1.cell? ⟨tb, 2, none⟩ = some (.slice A n c) := by rw [cell_of_row _ _ _ _ _ _ hst1]; rfl
    have hs1z : LB ≤ S1.heap.size := Nat.le_trans hlt.2.2.2.2.2.2 hgS1.size
    have HST1 := Lib.hid hst1; have HVIS1 := Lib.hid hvis1; have HO1 := Lib.hid hown1; have HF1 := Lib.hid hfo1; have HK1 := Lib.hid hk1; have HSR := Lib.hid h; have HAP := Lib.hid hap; have HWK := Lib.hid hwk; have HIN := Lib.hid hin; have HLEN := Lib.hid hlen; have HFI := Lib.hid hfi
    have HLT := Lib.hid hlt
    clear hst1 hvis1 hown1 hfo1 hk1 h hown hfo hap hwk hin hlen hfi hgS1 hN
    go_enter Tryz.func53, Tryz.ntmps53
    go_upto_region 1 with fail
    rw [← hS1]
    clear hS1 t1 v0 v1
    go_upto_region 2 with (at_builtin; refine wpList_appR rfl (.tmp 17) (.tmp 19) 22 3 rfl i0 Tryz.underlying22 HI.out HZ0.out HZ1.out HZ2.out LB A n c path (x : Int) rfl HO1.out rfl (by omega) hs1z ?_; intro A2 c2 w3 hO3 hg3 hr3; have hst3 := (hg3.block tb (lt_of_at9 HST1.out) (fun e => by have h1 := (row_low HO1.out tb e.symm).1; have h2 := HLT.out; omega)).trans HST1.out; have u2 : w3.cell? ⟨tb, 2, none⟩ = some (.slice A n c) := (by rw [cell_of_row _ _ _ _ _ _ hst3]; rfl); have u2f : w3.frozen? ⟨tb, 2, none⟩ = false := frozen_of_row _ _ _ _ _ hst3; have HG3 := Lib.hid hg3; have HO3 := Lib.hid hO3; have HR3 := Lib.hid hr3; have HST3 := Lib.hid hst3; clear hg3 hO3 hr3 hst3)
    obtain ⟨S3, hS3⟩ : ∃ S3, S3 = w3.setCell ⟨tb, 2, none⟩ (.slice A2 (n + 1) c2) := ⟨_, rfl⟩
    have hg33 : w3.grownBy S3 (some tb) := by rw [hS3]; exact grown_set _ _ _ _
    have hst33 : S3.heap[tb]? = some (.cells #[.slice (some ⟨lb, 0, none⟩) N N, .slice (some ⟨vb, 0, none⟩) N N, .slice A2 (n + 1) c2, .int .i64 ((l1 : Int) : Int), .bool false, .bool fi, .int .i64 (cnt : Int), .slice F nf cf] 51 (0, 0)) := by rw [hS3, heap_set _ HST3.out]; rfl
    have z3 : S3.cell? ⟨tb, 3, none⟩ = some (.int .i64 (l1 : Int)) := by rw [cell_of_row _ _ _ _ _ _ hst33]; rfl
    have z3f : S3.frozen? ⟨tb, 3, none⟩ = false := frozen_of_row _ _ _ _ _ hst33
    have HG33 := Lib.hid hg33; have HST33 := Lib.hid hst33
    rw [← hS3]
    clear hS3 hg33 hst33 u2 u2f s2 s2'
    go_upto_region 3 with fail
    obtain ⟨S5, hS5⟩ : ∃ S5, S5 = S3.setCell ⟨tb, 3, none⟩ (.int .i64 (l0 : Int)) := ⟨_, rfl⟩
    rw [← hS5]
    have hg55 : S3.grownBy S5 (some tb) := by rw [hS5]; exact grown_set _ _ _ _
    have hst55 : S5.heap[tb]? = some (.cells #[.slice (some ⟨lb, 0, none⟩) N N, .slice (some ⟨vb, 0, none⟩) N N, .slice A2 (n + 1) c2, .int .i64 ((l0 : Int) : Int), .bool false, .bool fi, .int .i64 (cnt : Int), .slice F nf cf] 51 (0, 0)) := by rw [hS5, heap_set _ HST33.out]; rfl
    have htbL : ∀ q, rowOf A = some q → LB ≤ q := fun q e => (row_low HO1.out q e).1
    have hls := HLT.out
    have hk3 : Kp LB tb vb S1 w3 := Kp.grown HG3.out hs1z (fun q e => .inl (htbL q e))
    have hk33 : Kp LB tb vb w3 S3 := Kp.grown HG33.out (Nat.le_trans hs1z HG3.out.size) (fun q e => by cases e; exact .inr (.inl rfl))
    have hk55 : Kp LB tb vb S3 S5 := Kp.grown hg55 (Nat.le_trans hs1z (Nat.le_trans HG3.out.size HG33.out.size)) (fun q e => by cases e; exact .inr (.inl rfl))
    have HK5 := Lib.hid (((HK1.out.trans hk3).trans hk33).trans hk55)
    have hv55 : S5.heap[vb]? = some (.cells ((boolRow (fun i => (path ++ [(x : Int)]).contains (i : Int)) N).map Value.bool).toArray 4 (0, 0)) :=
      (hg55.block vb (by have := HG3.out.size; have := HG33.out.size; omega) (by simp; omega)).trans ((HG33.out.block vb (by have := HG3.out.size; omega) (by simp; omega)).trans ((HG3.out.block vb (by omega) (fun e => by have := htbL vb e.symm; omega)).trans HVIS1.out))
    have HSR5 := Lib.hid (HSR.out.turned HK5.out hst55 hv55)
    have hA2 : ∀ q, rowOf A2 = some q → LB ≤ q := fun q e => (row_low HO3.out q e).1
    have HO5 := Lib.hid ((HO3.out.apart HG33.out (fun q hq e => by have := hA2 q hq; injection e with e; omega)).apart hg55 (fun q hq e => by have := hA2 q hq; injection e with e; omega))
    have hF1 := row_low HF1.out
    have HF3 := Lib.hid (HF1.out.apart HG3.out (fun q hq e => HAP.out q hq e))
    have HF5 := Lib.hid ((HF3.out.apart HG33.out (fun q hq e => by have := (hF1 q hq).1; injection e with e; omega)).apart hg55 (fun q hq e => by have := (hF1 q hq).1; injection e with e; omega))
    have HAP5 := Lib.hid (show Apart A2 F from fun q hq e => by
      rcases HR3.out with h1 | ⟨k9, h1, h2⟩
      · exact HAP.out q hq (h1 ▸ e)
      · rw [h1] at e; injection e with e; have := (hF1 q hq).2; omega)
    clear hg55 hst55 hk3 hk33 hk55 hv55 hS5 htbL hA2 hF1 z3 z3f hsubk HG33 HST33 HST3 HG3 HO3 HR3 HF3 HF1 HO1 HK1 HVIS1 HST1
    rename_i Kt hKt Kr hKr
    obtain ⟨st, hst⟩ : ∃ st, st = (allW adj 0 (path ++ [(x : Int)])).foldl (scanC fi) (cnt, found) := ⟨_, rfl⟩
    have HSTE := Lib.hid hst
    have HT := Lib.hid (show ∀ (T : Array Value) (V : World) (A' : Option Addr) (c' : Nat) (F' : Option Addr) (nf' cf' : Nat), T = #[.pointer (some ⟨tb, 0, none⟩), .int .i64 (x : Int), T.getD 2 undef, T.getD 3 undef, T.getD 4 undef, T.getD 5 undef, T.getD 6 undef, T.getD 7 undef, T.getD 8 undef, T.getD 9 undef, T.getD 10 undef, T.getD 11 undef, T.getD 12 undef, T.getD 13 undef, T.getD 14 undef, T.getD 15 undef, T.getD 16 undef, T.getD 17 undef, T.getD 18 undef, T.getD 19 undef, T.getD 20 undef, T.getD 21 undef, T.getD 22 undef, T.getD 23 undef, T.getD 24 undef, T.getD 25 undef, T.getD 26 undef, T.getD 27 undef, T.getD 28 undef, T.getD 29 undef, T.getD 30 undef, T.getD 31 undef, T.getD 32 undef, T.getD 33 undef, T.getD 34 undef, T.getD 35 undef, T.getD 36 undef, T.getD 37 undef, T.getD 38 undef, T.getD 39 undef, T.getD 40 undef, T.getD 41 undef, T.getD 42 undef, T.getD 43 undef, T.getD 44 undef, T.getD 45 undef, T.getD 46 undef, T.getD 47 undef, T.getD 48 undef, T.getD 49 undef, T.getD 50 undef, T.getD 51 undef, T.getD 52 undef, T.getD 53 undef, T.getD 54 undef, T.getD 55 undef, T.getD 56 undef, T.getD 57 undef, T.getD 58 undef, T.getD 59 undef, T.getD 60 undef, T.getD 61 undef, T.getD 62 undef, T.getD 63 undef, T.getD 64 undef, T.getD 65 undef, T.getD 66 undef, T.getD 67 undef, T.getD 68 undef, T.getD 69 undef, T.getD 70 undef, T.getD 71 undef, T.getD 72 undef, T.getD 73 undef, T.getD 74 undef, T.getD 75 undef, T.getD 76 undef, T.getD 77 undef, T.getD 78 undef, T.getD 79 undef, T.getD 80 undef, T.getD 81 undef, T.getD 82 undef, T.getD 83 undef, T.getD 84 undef, T.getD 85 undef, T.getD 86 undef, T.getD 87 undef, T.getD 88 undef, T.getD 89 undef, T.getD 90 undef, T.getD 91 undef, T.getD 92 undef, T.getD 93 undef, T.getD 94 undef, T.getD 95 undef, T.getD 96 undef, T.getD 97 undef, T.getD 98 undef, T.getD 99 undef, T.getD 100 undef, T.getD 101 undef, T.getD 102 undef, T.getD 103 undef, T.getD 104 undef, T.getD 105 undef, T.getD 106 undef, T.getD 107 undef, T.getD 108 undef, T.getD 109 undef, T.getD 110 undef, T.getD 111 undef, T.getD 112 undef, T.getD 113 undef, T.getD 114 undef, T.getD 115 undef, T.getD 116 undef, T.getD 117 undef, T.getD 118 undef, T.getD 119 undef, T.getD 120 undef, T.getD 121 undef, T.getD 122 undef, T.getD 123 undef, T.getD 124 undef, T.getD 125 undef, T.getD 126 undef, T.getD 127 undef, T.getD 128 undef, T.getD 129 undef, T.getD 130 undef, T.getD 131 undef, T.getD 132 undef, T.getD 133 undef, T.getD 134 undef, T.getD 135 undef, T.getD 136 undef, T.getD 137 undef, T.getD 138 undef, T.getD 139 undef, T.getD 140 undef, T.getD 141 undef, T.getD 142 undef, T.getD 143 undef, T.getD 144 undef, T.getD 145 undef, T.getD 146 undef, T.getD 147 undef, T.getD 148 undef, T.getD 149 undef, T.getD 150 undef, T.getD 151 undef, T.getD 152 undef, T.getD 153 undef, T.getD 154 undef, T.getD 155 undef, T.getD 156 undef, T.getD 157 undef, T.getD 158 undef, T.getD 159 undef, T.getD 160 undef, T.getD 161 undef, T.getD 162 undef, T.getD 163 undef, T.getD 164 undef] → SrAt V LB tb lb vb N adj cells (path ++ [(x : Int)]) A' (n + 1) c' l0 false fi st.1 F' nf' cf' → OwnI 3 V LB A' (n + 1) c' (path ++ [(x : Int)]) → OwnI 3 V LB F' nf' cf' st.2 → Apart A' F' → Kp LB tb vb w V → Kt { tmps := T, defers := [] } V from by
      clear hKr Kr HSR5 HO5 HF5 HAP5 HK5 HSR HFI HAP HLEN
      intro T V A' c' F' nf' cf' hT hsr hown hfo hap hkp
      obtain ⟨u, hu⟩ : ∃ u : Nat → Value, u = fun i => T.getD i undef := ⟨_, rfl⟩
      replace hT : T = #[.pointer (some ⟨tb, 0, none⟩), .int .i64 (x : Int), u 2, u 3, u 4, u 5, u 6, u 7, u 8, u 9, u 10, u 11, u 12, u 13, u 14, u 15, u 16, u 17, u 18, u 19, u 20, u 21, u 22, u 23, u 24, u 25, u 26, u 27, u 28, u 29, u 30, u 31, u 32, u 33, u 34, u 35, u 36, u 37, u 38, u 39, u 40, u 41, u 42, u 43, u 44, u 45, u 46, u 47, u 48, u 49, u 50, u 51, u 52, u 53, u 54, u 55, u 56, u 57, u 58, u 59, u 60, u 61, u 62, u 63, u 64, u 65, u 66, u 67, u 68, u 69, u 70, u 71, u 72, u 73, u 74, u 75, u 76, u 77, u 78, u 79, u 80, u 81, u 82, u 83, u 84, u 85, u 86, u 87, u 88, u 89, u 90, u 91, u 92, u 93, u 94, u 95, u 96, u 97, u 98, u 99, u 100, u 101, u 102, u 103, u 104, u 105, u 106, u 107, u 108, u 109, u 110, u 111, u 112, u 113, u 114, u 115, u 116, u 117, u 118, u 119, u 120, u 121, u 122, u 123, u 124, u 125, u 126, u 127, u 128, u 129, u 130, u 131, u 132, u 133, u 134, u 135, u 136, u 137, u 138, u 139, u 140, u 141, u 142, u 143, u 144, u 145, u 146, u 147, u 148, u 149, u 150, u 151, u 152, u 153, u 154, u 155, u 156, u 157, u 158, u 159, u 160, u 161, u 162, u 163, u 164] := by rw [hu]; exact hT
      subst hT
      clear hu
      refine hKt _ _ ?_
      have hlt := hsr.lt
      have t1 : V.cell? ⟨tb, 1, none⟩ = some (.slice (some ⟨vb, 0, none⟩) N N) := by rw [cell_of_row _ _ _ _ _ _ hsr.st]; rfl
      have v0 : V.cell? ⟨vb, x, none⟩ = some (.bool ((path ++ [(x : Int)]).contains (x : Int))) := by
        rw [cell_of_row _ _ _ _ _ _ hsr.vis, List.getElem?_toArray, List.getElem?_map, boolRow_at (f := fun i => (path ++ [(x : Int)]).contains (i : Int)) (by omega : x < N)]; rfl
      have v1 : V.frozen? ⟨vb, x, none⟩ = false := frozen_of_row _ _ _ _ _ hsr.vis
      obtain ⟨V1, hV1⟩ : ∃ V1, V1 = V.setCell ⟨vb, x, none⟩ (.bool false) := ⟨_, rfl⟩
      have hg1 : V.grownBy V1 (some vb) := by rw [hV1]; exact grown_set _ _ _ _
      have hst1 := (hg1.block tb (by omega) (by simp; omega)).trans hsr.st
      have hvis1 : V1.heap[vb]? = some (.cells ((boolRow (fun i => path.contains (i : Int)) N).map Value.bool).toArray 4 (0, 0)) := by
        rw [hV1, heap_set _ hsr.vis]
        have e := vis_set (path := path ++ [(x : Int)]) (N := N) (x := x) false
        rw [vis_pop HNX.out] at e
        rw [← e]; simp
      have hrA := row_low hown
      have hrF := row_low hfo
      have hown1 : OwnI 3 V1 LB A' (n + 1) c' (path ++ [(x : Int)]) := hown.apart hg1 (fun q hq e => by have := (hrA q hq).1; injection e with e; omega)
      have hfo1 : OwnI 3 V1 LB F' nf' cf' st.2 := hfo.apart hg1 (fun q hq e => by have := (hrF q hq).1; injection e with e; omega)
      have hkp1 : Kp LB tb vb w V1 := hkp.trans (Kp.grown hg1 hlt.2.2.2.2.2.2 (fun q e => .inr (.inr (by injection e with e; exact e.symm))))
      have HST1 := Lib.hid hst1; have HVIS1 := Lib.hid hvis1; have HO1 := Lib.hid hown1; have HF1 := Lib.hid hfo1; have HK1 := Lib.hid hkp1; have HSR := Lib.hid hsr; have HAP := Lib.hid hap; have HG1 := Lib.hid hg1
      have HRA := Lib.hid hrA; have HRF := Lib.hid hrF
      clear hst1 hvis1 hown1 hfo1 hkp1 hsr hown hfo hap hkp hg1 hrA hrF
      go_upto_region 17 with fail
      rw [← hV1]
      clear hV1 t1 v0 v1
      obtain ⟨gp, rfl, hgp1, hgp2, hnc⟩ : ∃ gp, A' = some ⟨gp, 0, none⟩ ∧ LB ≤ gp ∧ gp < V1.heap.size ∧ n + 1 ≤ c' := by
        rcases HO1.out.form with ⟨_, h0, _⟩ | ⟨g, h1, h2, h3, h4, _⟩
        · omega
        · exact ⟨g, h1, h2, h3, h4⟩
      have hc63 : c' ≤ 9223372036854775807 := by
        rcases HO1.out.form with ⟨_, h0, _⟩ | ⟨g, h1, h2, h3, h4, h5⟩
        · omega
        · unfold maxLen at h5; omega
      have zc : V1.drew.cell? ⟨tb, 2, none⟩ = some (.slice (some ⟨gp, 0, none⟩) (n + 1) c') := by show V1.cell? _ = _; rw [cell_of_row _ _ _ _ _ _ HST1.out]; rfl
      have zf : V1.drew.frozen? ⟨tb, 2, none⟩ = false := by show V1.frozen? _ = _; exact frozen_of_row _ _ _ _ _ HST1.out
      have hw1 : IntKind.i64.wrap (n : Int) = (n : Int) := by rw [IntKind.wrap_i64]; omega
      have n0 : (0 : Int) ≤ (n : Int) := by omega
      have nc : (n : Int) ≤ (c' : Int) := by omega
      have ncc : n ≤ c' := by omega
      refine wp_region_held_drew (S := fun _ => True) (by kernel_rfl) trivial (fun hHeld => ?_)
      refine wpAnyH_take (i := 0) (oi := ⟨_, _, _, _, _, _⟩) (v := ?_) rfl (by kernel_rfl) (by kernel_rfl) (by kernel_rfl) (fun _ _ _ h => h) (Or.inl ⟨by rfl, ?_⟩) (by assumption) ?_
      rotate_left
      · intro w hSw
        (try dsimp only at hSw)
        go_simp
        (try with_reducible rfl)
      (try simp only [Act.put, List.setIfInBounds_toArray, List.set_cons_zero, List.set_cons_succ])
      refine wpAnyH_take (i := 1) (oi := ⟨_, _, _, _, _, _⟩) (v := ?_) rfl (by kernel_rfl) (by kernel_rfl) (by kernel_rfl) (fun _ _ _ h => h) (Or.inl ⟨by rfl, ?_⟩) (by assumption) ?_
      rotate_left
      · intro w hSw
        (try dsimp only at hSw)
        go_simp
        (try with_reducible rfl)
      (try simp only [Act.put, List.setIfInBounds_toArray, List.set_cons_zero, List.set_cons_succ])
      refine wpAnyH_take (i := 2) (oi := ⟨_, _, _, _, _, _⟩) (v := ?_) rfl (by kernel_rfl) (by kernel_rfl) (by kernel_rfl) (fun _ _ _ h => h) (Or.inl ⟨by rfl, ?_⟩) (by assumption) ?_
      rotate_left
      · intro w hSw
        (try dsimp only at hSw)
        go_simp
        (try with_reducible rfl)
      (try simp only [Act.put, List.setIfInBounds_toArray, List.set_cons_zero, List.set_cons_succ])
      refine wpAnyH_take (i := 3) (oi := ⟨_, _, _, _, _, _⟩) (v := ?_) rfl (by kernel_rfl) (by kernel_rfl) (by kernel_rfl) (fun _ _ _ h => h) (Or.inl ⟨by rfl, ?_⟩) (by assumption) ?_
      rotate_left
      · intro w hSw
        (try dsimp only at hSw)
        go_simp
        (try with_reducible rfl)
      (try simp only [Act.put, List.setIfInBounds_toArray, List.set_cons_zero, List.set_cons_succ])
      refine wpAnyH_take (i := 5) (oi := ⟨_, _, _, _, _, _⟩) (v := ?_) rfl (by kernel_rfl) (by kernel_rfl) (by kernel_rfl) (fun _ _ _ h => h) (Or.inl ⟨by rfl, ?_⟩) (by assumption) ?_
      rotate_left
      · intro w hSw
        (try dsimp only at hSw)
        go_simp
        (try with_reducible rfl)
      (try simp only [Act.put, List.setIfInBounds_toArray, List.set_cons_zero, List.set_cons_succ])
      refine wpAnyH_take (i := 6) (oi := ⟨_, _, _, _, _, _⟩) (v := ?_) rfl (by kernel_rfl) (by kernel_rfl) (by kernel_rfl) (fun _ _ _ h => h) (Or.inl ⟨by rfl, ?_⟩) (by assumption) ?_
      rotate_left
      · intro w hSw
        (try dsimp only at hSw)
        go_simp
        (try with_reducible rfl)
      (try simp only [Act.put, List.setIfInBounds_toArray, List.set_cons_zero, List.set_cons_succ])
      refine wpAnyH_take (i := 7) (oi := ⟨_, _, _, _, _, _⟩) (v := ?_) rfl (by kernel_rfl) (by kernel_rfl) (by kernel_rfl) (fun _ _ _ h => h) (Or.inl ⟨by rfl, ?_⟩) (by assumption) ?_
      rotate_left
      · intro w hSw
        (try dsimp only at hSw)
        go_simp
        (try with_reducible rfl)
      (try simp only [Act.put, List.setIfInBounds_toArray, List.set_cons_zero, List.set_cons_succ])
      refine wpAnyH_ready (rs := [4, 8]) (by kernel_rfl) (by simp) ?_
      refine AllReadyH.cons (o := ⟨_, _, _, _, _, _⟩) rfl (fun K hK => ?_) ?_
      · go_simp
        skip
        refine hK.out _ _ ?_ (fun hHeld => ?_)
        · (try dsimp only)
          first | done | trivial
        clear hK K
        (try simp only [Act.put, List.setIfInBounds_toArray, List.set_cons_zero, List.set_cons_succ])
        refine wpAnyH_ready (rs := [8]) (by kernel_rfl) (by simp) ?_
        refine AllReadyH.cons (o := ⟨_, _, _, _, _, _⟩) rfl (fun K hK => ?_) AllReadyH.nil
        go_simp
        skip
        refine hK.out _ _ ?_ (fun hHeld => ?_)
        · (try dsimp only)
          first | done | trivial
        clear hK K
        (try simp only [Act.put, List.setIfInBounds_toArray, List.set_cons_zero, List.set_cons_succ])
        refine wpAnyH_take (i := 9) (oi := ⟨_, _, _, _, _, _⟩) (v := ?_) rfl (by kernel_rfl) (by kernel_rfl) (by kernel_rfl) (fun _ _ _ h => h) (Or.inl ⟨by rfl, ?_⟩) (by assumption) ?_
        rotate_left
        · intro w hSw
          (try dsimp only at hSw)
          go_simp
          (try with_reducible rfl)
        (try simp only [Act.put, List.setIfInBounds_toArray, List.set_cons_zero, List.set_cons_succ])
        refine wpAnyH_take (i := 10) (oi := ⟨_, _, _, _, _, _⟩) (v := ?_) rfl (by kernel_rfl) (by kernel_rfl) (by kernel_rfl) (fun _ _ _ h => h) (Or.inl ⟨by rfl, ?_⟩) (by assumption) ?_
        rotate_left
        · intro w hSw
          (try dsimp only at hSw)
          go_simp
          (try with_reducible rfl)
        (try simp only [Act.put, List.setIfInBounds_toArray, List.set_cons_zero, List.set_cons_succ])
        refine wpAnyH_take (i := 11) (oi := ⟨_, _, _, _, _, _⟩) (v := ?_) rfl (by kernel_rfl) (by kernel_rfl) (by kernel_rfl) (fun _ _ _ h => h) (Or.inl ⟨by rfl, ?_⟩) (by assumption) ?_
        rotate_left
        · intro w hSw
          (try dsimp only at hSw)
          go_simp
          (try with_reducible rfl)
        (try simp only [Act.put, List.setIfInBounds_toArray, List.set_cons_zero, List.set_cons_succ])
        refine wpAnyH_take (i := 12) (oi := ⟨_, _, _, _, _, _⟩) (v := ?_) rfl (by kernel_rfl) (by kernel_rfl) (by kernel_rfl) (fun _ _ _ h => h) (Or.inl ⟨by rfl, ?_⟩) (by assumption) ?_
        rotate_left
        · intro w hSw
          (try dsimp only at hSw)
          go_simp
          (try with_reducible rfl)
        (try simp only [Act.put, List.setIfInBounds_toArray, List.set_cons_zero, List.set_cons_succ])
        refine wpAnyH_take (i := 13) (oi := ⟨_, _, _, _, _, _⟩) (v := ?_) rfl (by kernel_rfl) (by kernel_rfl) (by kernel_rfl) (fun _ _ _ h => h) (Or.inl ⟨by rfl, ?_⟩) (by assumption) ?_
        rotate_left
        · intro w hSw
          (try dsimp only at hSw)
          go_simp
          (try with_reducible rfl)
        (try simp only [Act.put, List.setIfInBounds_toArray, List.set_cons_zero, List.set_cons_succ])
        refine wpAnyH_ready (rs := [14]) (by kernel_rfl) (by simp) ?_
        refine AllReadyH.cons (o := ⟨_, _, _, _, _, _⟩) rfl (fun K hK => ?_) AllReadyH.nil
        go_simp
        skip
        refine hK.out _ _ ?_ (fun hHeld => ?_)
        · (try dsimp only)
          first | done | trivial
        clear hK K
        (try simp only [Act.put, List.setIfInBounds_toArray, List.set_cons_zero, List.set_cons_succ])
        refine wpAnyH_done (by kernel_rfl) ?_ _
        clear hHeld
        obtain ⟨V3, hV3⟩ : ∃ V3, V3 = (V1.setCell ⟨tb, 2, none⟩ (.slice (some ⟨gp, 0, none⟩) n c')).drew := ⟨_, rfl⟩
        rw [← hV3]
        have hg3 : V1.grownBy V3 (some tb) := by rw [hV3]; have h9 := grown_set V1 tb 2 (.slice (some ⟨gp, 0, none⟩) n c'); exact ⟨h9.os, h9.tape, h9.output, h9.size, h9.block⟩
        have hst3 : V3.heap[tb]? = some (.cells #[.slice (some ⟨lb, 0, none⟩) N N, .slice (some ⟨vb, 0, none⟩) N N, .slice (some ⟨gp, 0, none⟩) n c', .int .i64 ((l0 : Int) : Int), .bool false, .bool fi, .int .i64 (st.1 : Int), .slice F' nf' cf'] 51 (0, 0)) := by
          have h9 := heap_set (W := V1) (j := 2) (.slice (some ⟨gp, 0, none⟩) n c') HST1.out
          rw [hV3]; exact h9
        have z3 : V3.cell? ⟨tb, 3, none⟩ = some (.int .i64 (l0 : Int)) := by rw [cell_of_row _ _ _ _ _ _ hst3]; rfl
        have z3f : V3.frozen? ⟨tb, 3, none⟩ = false := frozen_of_row _ _ _ _ _ hst3
        have hs5 := grown_set V3 tb 3 (.int .i64 (l1 : Int))
        have hst5 : (V3.setCell ⟨tb, 3, none⟩ (.int .i64 (l1 : Int))).heap[tb]? = some (.cells #[.slice (some ⟨lb, 0, none⟩) N N, .slice (some ⟨vb, 0, none⟩) N N, .slice (some ⟨gp, 0, none⟩) n c', .int .i64 ((l1 : Int) : Int), .bool false, .bool fi, .int .i64 (st.1 : Int), .slice F' nf' cf'] 51 (0, 0)) := by rw [heap_set _ hst3]; rfl
        have hg5 : V1.grownBy (V3.setCell ⟨tb, 3, none⟩ (.int .i64 (l1 : Int))) (some tb) := hg3.trans hs5
        have hv5 := (hg5.block vb (lt_of_at9 HVIS1.out) (by simp; omega)).trans HVIS1.out
        have hLV : LB ≤ V1.heap.size := Nat.le_trans hlt.2.2.2.2.2.2 HG1.out.size
        have hkV : Kp LB tb vb V (V3.setCell ⟨tb, 3, none⟩ (.int .i64 (l1 : Int))) := (Kp.grown HG1.out hlt.2.2.2.2.2.2 (fun q e => .inr (.inr (by injection e with e; exact e.symm)))).trans (Kp.grown hg5 hLV (fun q e => .inr (.inl (by injection e with e; exact e.symm))))
        have hkW : Kp LB tb vb w (V3.setCell ⟨tb, 3, none⟩ (.int .i64 (l1 : Int))) := HK1.out.trans (Kp.grown hg5 hLV (fun q e => .inr (.inl (by injection e with e; exact e.symm))))
        have HFS := Lib.hid (HSR.out.turned hkV hst5 hv5)
        have hcut := HO1.out.cut (M := n) (by omega)
        rw [show (path ++ [(x : Int)]).take n = path from by have h9 := HO1.out.len; rw [List.length_append] at h9; simp at h9; rw [List.take_left' (by omega)]] at hcut
        have HFO := Lib.hid (hcut.apart hg5 (fun q hq e => by
          injection e with e
          have hq' : gp = q := by simpa [rowOf] using hq
          omega))
        have HFF := Lib.hid (HF1.out.apart hg5 (fun q hq e => by have := (HRF.out q hq).1; injection e with e; omega))
        have HFK := Lib.hid hkW
        clear hV3 hg3 hst3 hs5 hst5 hg5 hv5 hkV hkW hcut zc zf
        go_wp2_with fail
        go_end0
        exact ⟨_, c', F', nf', cf', ⟨_, rfl⟩, by rw [← HSTE.out]; exact HFS.out, HFO.out, by rw [← HSTE.out]; exact HFF.out, HAP.out, HFK.out⟩
      refine AllReadyH.cons (o := ⟨_, _, _, _, _, _⟩) rfl (fun K hK => ?_) AllReadyH.nil
      go_simp
      skip
      refine hK.out _ _ ?_ (fun hHeld => ?_)
      · (try dsimp only)
        first | done | trivial
      clear hK K
      (try simp only [Act.put, List.setIfInBounds_toArray, List.set_cons_zero, List.set_cons_succ])
      refine wpAnyH_take (i := 9) (oi := ⟨_, _, _, _, _, _⟩) (v := ?_) rfl (by kernel_rfl) (by kernel_rfl) (by kernel_rfl) (fun _ _ _ h => h) (Or.inl ⟨by rfl, ?_⟩) (by assumption) ?_
      rotate_left
      · intro w hSw
        (try dsimp only at hSw)
        go_simp
        (try with_reducible rfl)
      (try simp only [Act.put, List.setIfInBounds_toArray, List.set_cons_zero, List.set_cons_succ])
      refine wpAnyH_take (i := 10) (oi := ⟨_, _, _, _, _, _⟩) (v := ?_) rfl (by kernel_rfl) (by kernel_rfl) (by kernel_rfl) (fun _ _ _ h => h) (Or.inl ⟨by rfl, ?_⟩) (by assumption) ?_
      rotate_left
      · intro w hSw
        (try dsimp only at hSw)
        go_simp
        (try with_reducible rfl)
      (try simp only [Act.put, List.setIfInBounds_toArray, List.set_cons_zero, List.set_cons_succ])
      refine wpAnyH_ready (rs := [4]) (by kernel_rfl) (by simp) ?_
      refine AllReadyH.cons (o := ⟨_, _, _, _, _, _⟩) rfl (fun K hK => ?_) AllReadyH.nil
      go_simp
      skip
      refine hK.out _ _ ?_ (fun hHeld => ?_)
      · (try dsimp only)
        first | done | trivial
      clear hK K
      (try simp only [Act.put, List.setIfInBounds_toArray, List.set_cons_zero, List.set_cons_succ])
      refine wpAnyH_take (i := 11) (oi := ⟨_, _, _, _, _, _⟩) (v := ?_) rfl (by kernel_rfl) (by kernel_rfl) (by kernel_rfl) (fun _ _ _ h => h) (Or.inl ⟨by rfl, ?_⟩) (by assumption) ?_
      rotate_left
      · intro w hSw
        (try dsimp only at hSw)
        go_simp
        (try with_reducible rfl)
      (try simp only [Act.put, List.setIfInBounds_toArray, List.set_cons_zero, List.set_cons_succ])
      refine wpAnyH_take (i := 12) (oi := ⟨_, _, _, _, _, _⟩) (v := ?_) rfl (by kernel_rfl) (by kernel_rfl) (by kernel_rfl) (fun _ _ _ h => h) (Or.inl ⟨by rfl, ?_⟩) (by assumption) ?_
      rotate_left
      · intro w hSw
        (try dsimp only at hSw)
        go_simp
        (try with_reducible rfl)
      (try simp only [Act.put, List.setIfInBounds_toArray, List.set_cons_zero, List.set_cons_succ])
      refine wpAnyH_take (i := 13) (oi := ⟨_, _, _, _, _, _⟩) (v := ?_) rfl (by kernel_rfl) (by kernel_rfl) (by kernel_rfl) (fun _ _ _ h => h) (Or.inl ⟨by rfl, ?_⟩) (by assumption) ?_
      rotate_left
      · intro w hSw
        (try dsimp only at hSw)
        go_simp
        (try with_reducible rfl)
      (try simp only [Act.put, List.setIfInBounds_toArray, List.set_cons_zero, List.set_cons_succ])
      refine wpAnyH_ready (rs := [14]) (by kernel_rfl) (by simp) ?_
      refine AllReadyH.cons (o := ⟨_, _, _, _, _, _⟩) rfl (fun K hK => ?_) AllReadyH.nil
      go_simp
      skip
      refine hK.out _ _ ?_ (fun hHeld => ?_)
      · (try dsimp only)
        first | done | trivial
      clear hK K
      (try simp only [Act.put, List.setIfInBounds_toArray, List.set_cons_zero, List.set_cons_succ])
      refine wpAnyH_done (by kernel_rfl) ?_ _
      clear hHeld
      obtain ⟨V3, hV3⟩ : ∃ V3, V3 = (V1.setCell ⟨tb, 2, none⟩ (.slice (some ⟨gp, 0, none⟩) n c')).drew := ⟨_, rfl⟩
      rw [← hV3]
      have hg3 : V1.grownBy V3 (some tb) := by rw [hV3]; have h9 := grown_set V1 tb 2 (.slice (some ⟨gp, 0, none⟩) n c'); exact ⟨h9.os, h9.tape, h9.output, h9.size, h9.block⟩
      have hst3 : V3.heap[tb]? = some (.cells #[.slice (some ⟨lb, 0, none⟩) N N, .slice (some ⟨vb, 0, none⟩) N N, .slice (some ⟨gp, 0, none⟩) n c', .int .i64 ((l0 : Int) : Int), .bool false, .bool fi, .int .i64 (st.1 : Int), .slice F' nf' cf'] 51 (0, 0)) := by
        have h9 := heap_set (W := V1) (j := 2) (.slice (some ⟨gp, 0, none⟩) n c') HST1.out
        rw [hV3]; exact h9
      have z3 : V3.cell? ⟨tb, 3, none⟩ = some (.int .i64 (l0 : Int)) := by rw [cell_of_row _ _ _ _ _ _ hst3]; rfl
      have z3f : V3.frozen? ⟨tb, 3, none⟩ = false := frozen_of_row _ _ _ _ _ hst3
      have hs5 := grown_set V3 tb 3 (.int .i64 (l1 : Int))
      have hst5 : (V3.setCell ⟨tb, 3, none⟩ (.int .i64 (l1 : Int))).heap[tb]? = some (.cells #[.slice (some ⟨lb, 0, none⟩) N N, .slice (some ⟨vb, 0, none⟩) N N, .slice (some ⟨gp, 0, none⟩) n c', .int .i64 ((l1 : Int) : Int), .bool false, .bool fi, .int .i64 (st.1 : Int), .slice F' nf' cf'] 51 (0, 0)) := by rw [heap_set _ hst3]; rfl
      have hg5 : V1.grownBy (V3.setCell ⟨tb, 3, none⟩ (.int .i64 (l1 : Int))) (some tb) := hg3.trans hs5
      have hv5 := (hg5.block vb (lt_of_at9 HVIS1.out) (by simp; omega)).trans HVIS1.out
      have hLV : LB ≤ V1.heap.size := Nat.le_trans hlt.2.2.2.2.2.2 HG1.out.size
      have hkV : Kp LB tb vb V (V3.setCell ⟨tb, 3, none⟩ (.int .i64 (l1 : Int))) := (Kp.grown HG1.out hlt.2.2.2.2.2.2 (fun q e => .inr (.inr (by injection e with e; exact e.symm)))).trans (Kp.grown hg5 hLV (fun q e => .inr (.inl (by injection e with e; exact e.symm))))
      have hkW : Kp LB tb vb w (V3.setCell ⟨tb, 3, none⟩ (.int .i64 (l1 : Int))) := HK1.out.trans (Kp.grown hg5 hLV (fun q e => .inr (.inl (by injection e with e; exact e.symm))))
      have HFS := Lib.hid (HSR.out.turned hkV hst5 hv5)
      have hcut := HO1.out.cut (M := n) (by omega)
      rw [show (path ++ [(x : Int)]).take n = path from by have h9 := HO1.out.len; rw [List.length_append] at h9; simp at h9; rw [List.take_left' (by omega)]] at hcut
      have HFO := Lib.hid (hcut.apart hg5 (fun q hq e => by
        injection e with e
        have hq' : gp = q := by simpa [rowOf] using hq
        omega))
      have HFF := Lib.hid (HF1.out.apart hg5 (fun q hq e => by have := (HRF.out q hq).1; injection e with e; omega))
      have HFK := Lib.hid hkW
      clear hV3 hg3 hst3 hs5 hst5 hg5 hv5 hkV hkW hcut zc zf
      go_wp2_with fail
      go_end0
      exact ⟨_, c', F', nf', cf', ⟨_, rfl⟩, by rw [← HSTE.out]; exact HFS.out, HFO.out, by rw [← HSTE.out]; exact HFF.out, HAP.out, HFK.out⟩)
    have y2 : S5.cell? ⟨tb, 2, none⟩ = some (.slice A2 (n + 1) c2) := by rw [cell_of_row _ _ _ _ _ _ HSR5.out.st]; rfl
    have y3 : S5.cell? ⟨tb, 3, none⟩ = some (.int .i64 (l0 : Int)) := by rw [cell_of_row _ _ _ _ _ _ HSR5.out.st]; rfl
    have y4 : S5.cell? ⟨tb, 4, none⟩ = some (.bool false) := by rw [cell_of_row _ _ _ _ _ _ HSR5.out.st]; rfl
    have y6 : S5.cell? ⟨tb, 6, none⟩ = some (.int .i64 (cnt : Int)) := by rw [cell_of_row _ _ _ _ _ _ HSR5.out.st]; rfl
    have f6 : S5.frozen? ⟨tb, 6, none⟩ = false := frozen_of_row _ _ _ _ _ HSR5.out.st
    have hz : ((l0 : Int) == 0) = true := by have := HL0.out; simp; omega
    clear haddk
    go_upto_region 5 with fail
    refine wp_region_held_drew (S := fun w' => w'.cell? ⟨tb, 4, none⟩ = some (.bool false)) (by kernel_rfl) ?_ (fun hHeld => ?_)
    · (try dsimp only)
      exact y4
    refine wpAnyH_take (i := 0) (oi := ⟨_, _, _, _, _, _⟩) (v := ?_) rfl (by kernel_rfl) (by kernel_rfl) (by kernel_rfl) (fun _ _ _ h => h) (Or.inl ⟨by rfl, ?_⟩) (by assumption) ?_
    rotate_left
    · intro w hSw
      (try dsimp only at hSw)
      go_simp
      (try with_reducible rfl)
    (try simp only [Act.put, List.setIfInBounds_toArray, List.set_cons_zero, List.set_cons_succ])
    refine wpAnyH_take (i := 1) (oi := ⟨_, _, _, _, _, _⟩) (v := ?_) rfl (by kernel_rfl) (by kernel_rfl) (by kernel_rfl) (fun _ _ _ h => h) (Or.inl ⟨by rfl, ?_⟩) (by assumption) ?_
    rotate_left
    · intro w hSw
      (try dsimp only at hSw)
      go_simp
      (try with_reducible rfl)
    (try simp only [Act.put, List.setIfInBounds_toArray, List.set_cons_zero, List.set_cons_succ])
    refine wpAnyH_take (i := 2) (oi := ⟨_, _, _, _, _, _⟩) (v := ?_) rfl (by kernel_rfl) (by kernel_rfl) (by kernel_rfl) (fun _ _ _ h => h) (Or.inl ⟨by rfl, ?_⟩) (by assumption) ?_
    rotate_left
    · intro w hSw
      (try dsimp only at hSw)
      go_simp
      (try with_reducible rfl)
    (try simp only [Act.put, List.setIfInBounds_toArray, List.set_cons_zero, List.set_cons_succ])
    refine wpAnyH_take (i := 3) (oi := ⟨_, _, _, _, _, _⟩) (v := ?_) rfl (by kernel_rfl) (by kernel_rfl) (by kernel_rfl) (fun _ _ _ h => h) (Or.inl ⟨by rfl, ?_⟩) (by assumption) ?_
    rotate_left
    · intro w hSw
      (try dsimp only at hSw)
      go_simp
      (try with_reducible rfl)
    (try simp only [Act.put, List.setIfInBounds_toArray, List.set_cons_zero, List.set_cons_succ])
    refine wpAnyH_take (i := 4) (oi := ⟨_, _, _, _, _, _⟩) (v := ?_) rfl (by kernel_rfl) (by kernel_rfl) (by kernel_rfl) (fun _ _ _ h => h) (Or.inl ⟨by rfl, ?_⟩) (by assumption) ?_
    rotate_left
    · intro w hSw
      (try dsimp only at hSw)
      go_simp
      (try with_reducible rfl)
    (try simp only [Act.put, List.setIfInBounds_toArray, List.set_cons_zero, List.set_cons_succ])
    refine wpAnyH_take (i := 5) (oi := ⟨_, _, _, _, _, _⟩) (v := ?_) rfl (by kernel_rfl) (by kernel_rfl) (by kernel_rfl) (fun _ _ _ h => h) (Or.inl ⟨by rfl, ?_⟩) (by assumption) ?_
    rotate_left
    · intro w hSw
      (try dsimp only at hSw)
      go_simp
      (try with_reducible rfl)
    (try simp only [Act.put, List.setIfInBounds_toArray, List.set_cons_zero, List.set_cons_succ])
    refine wpAnyH_take (i := 6) (oi := ⟨_, _, _, _, _, _⟩) (v := undef) rfl (by kernel_rfl) (by kernel_rfl) (by kernel_rfl) (fun _ _ _ h => h) (Or.inr ⟨by rfl, rfl⟩) (by assumption) ?_
    (try simp only [Act.put, List.setIfInBounds_toArray, List.set_cons_zero, List.set_cons_succ])
    refine wpAnyH_take (i := 7) (oi := ⟨_, _, _, _, _, _⟩) (v := undef) rfl (by kernel_rfl) (by kernel_rfl) (by kernel_rfl) (fun _ _ _ h => h) (Or.inr ⟨by rfl, rfl⟩) (by assumption) ?_
    (try simp only [Act.put, List.setIfInBounds_toArray, List.set_cons_zero, List.set_cons_succ])
    refine wpAnyH_take (i := 8) (oi := ⟨_, _, _, _, _, _⟩) (v := undef) rfl (by kernel_rfl) (by kernel_rfl) (by kernel_rfl) (fun _ _ _ h => h) (Or.inr ⟨by rfl, rfl⟩) (by assumption) ?_
    (try simp only [Act.put, List.setIfInBounds_toArray, List.set_cons_zero, List.set_cons_succ])
    refine wpAnyH_take (i := 9) (oi := ⟨_, _, _, _, _, _⟩) (v := undef) rfl (by kernel_rfl) (by kernel_rfl) (by kernel_rfl) (fun _ _ _ h => h) (Or.inr ⟨by rfl, rfl⟩) (by assumption) ?_
    (try simp only [Act.put, List.setIfInBounds_toArray, List.set_cons_zero, List.set_cons_succ])
    refine wpAnyH_take (i := 10) (oi := ⟨_, _, _, _, _, _⟩) (v := undef) rfl (by kernel_rfl) (by kernel_rfl) (by kernel_rfl) (fun _ _ _ h => h) (Or.inr ⟨by rfl, rfl⟩) (by assumption) ?_
    (try simp only [Act.put, List.setIfInBounds_toArray, List.set_cons_zero, List.set_cons_succ])
    refine wpAnyH_take (i := 11) (oi := ⟨_, _, _, _, _, _⟩) (v := undef) rfl (by kernel_rfl) (by kernel_rfl) (by kernel_rfl) (fun _ _ _ h => h) (Or.inr ⟨by rfl, rfl⟩) (by assumption) ?_
    (try simp only [Act.put, List.setIfInBounds_toArray, List.set_cons_zero, List.set_cons_succ])
    refine wpAnyH_take (i := 12) (oi := ⟨_, _, _, _, _, _⟩) (v := undef) rfl (by kernel_rfl) (by kernel_rfl) (by kernel_rfl) (fun _ _ _ h => h) (Or.inr ⟨by rfl, rfl⟩) (by assumption) ?_
    (try simp only [Act.put, List.setIfInBounds_toArray, List.set_cons_zero, List.set_cons_succ])
    refine wpAnyH_take (i := 13) (oi := ⟨_, _, _, _, _, _⟩) (v := undef) rfl (by kernel_rfl) (by kernel_rfl) (by kernel_rfl) (fun _ _ _ h => h) (Or.inr ⟨by rfl, rfl⟩) (by assumption) ?_
    (try simp only [Act.put, List.setIfInBounds_toArray, List.set_cons_zero, List.set_cons_succ])
    refine wpAnyH_take (i := 14) (oi := ⟨_, _, _, _, _, _⟩) (v := undef) rfl (by kernel_rfl) (by kernel_rfl) (by kernel_rfl) (fun _ _ _ h => h) (Or.inr ⟨by rfl, rfl⟩) (by assumption) ?_
    (try simp only [Act.put, List.setIfInBounds_toArray, List.set_cons_zero, List.set_cons_succ])
    refine wpAnyH_take (i := 15) (oi := ⟨_, _, _, _, _, _⟩) (v := undef) rfl (by kernel_rfl) (by kernel_rfl) (by kernel_rfl) (fun _ _ _ h => h) (Or.inr ⟨by rfl, rfl⟩) (by assumption) ?_
    (try simp only [Act.put, List.setIfInBounds_toArray, List.set_cons_zero, List.set_cons_succ])
    refine wpAnyH_take (i := 16) (oi := ⟨_, _, _, _, _, _⟩) (v := undef) rfl (by kernel_rfl) (by kernel_rfl) (by kernel_rfl) (fun _ _ _ h => h) (Or.inr ⟨by rfl, rfl⟩) (by assumption) ?_
    (try simp only [Act.put, List.setIfInBounds_toArray, List.set_cons_zero, List.set_cons_succ])
    refine wpAnyH_take (i := 17) (oi := ⟨_, _, _, _, _, _⟩) (v := undef) rfl (by kernel_rfl) (by kernel_rfl) (by kernel_rfl) (fun _ _ _ h => h) (Or.inr ⟨by rfl, rfl⟩) (by assumption) ?_
    (try simp only [Act.put, List.setIfInBounds_toArray, List.set_cons_zero, List.set_cons_succ])
    refine wpAnyH_take (i := 18) (oi := ⟨_, _, _, _, _, _⟩) (v := undef) rfl (by kernel_rfl) (by kernel_rfl) (by kernel_rfl) (fun _ _ _ h => h) (Or.inr ⟨by rfl, rfl⟩) (by assumption) ?_
    (try simp only [Act.put, List.setIfInBounds_toArray, List.set_cons_zero, List.set_cons_succ])
    refine wpAnyH_take (i := 19) (oi := ⟨_, _, _, _, _, _⟩) (v := undef) rfl (by kernel_rfl) (by kernel_rfl) (by kernel_rfl) (fun _ _ _ h => h) (Or.inr ⟨by rfl, rfl⟩) (by assumption) ?_
    (try simp only [Act.put, List.setIfInBounds_toArray, List.set_cons_zero, List.set_cons_succ])
    refine wpAnyH_take (i := 20) (oi := ⟨_, _, _, _, _, _⟩) (v := undef) rfl (by kernel_rfl) (by kernel_rfl) (by kernel_rfl) (fun _ _ _ h => h) (Or.inr ⟨by rfl, rfl⟩) (by assumption) ?_
    (try simp only [Act.put, List.setIfInBounds_toArray, List.set_cons_zero, List.set_cons_succ])
    refine wpAnyH_take (i := 21) (oi := ⟨_, _, _, _, _, _⟩) (v := undef) rfl (by kernel_rfl) (by kernel_rfl) (by kernel_rfl) (fun _ _ _ h => h) (Or.inr ⟨by rfl, rfl⟩) (by assumption) ?_
    (try simp only [Act.put, List.setIfInBounds_toArray, List.set_cons_zero, List.set_cons_succ])
    refine wpAnyH_take (i := 22) (oi := ⟨_, _, _, _, _, _⟩) (v := undef) rfl (by kernel_rfl) (by kernel_rfl) (by kernel_rfl) (fun _ _ _ h => h) (Or.inr ⟨by rfl, rfl⟩) (by assumption) ?_
    (try simp only [Act.put, List.setIfInBounds_toArray, List.set_cons_zero, List.set_cons_succ])
    refine wpAnyH_take (i := 23) (oi := ⟨_, _, _, _, _, _⟩) (v := undef) rfl (by kernel_rfl) (by kernel_rfl) (by kernel_rfl) (fun _ _ _ h => h) (Or.inr ⟨by rfl, rfl⟩) (by assumption) ?_
    (try simp only [Act.put, List.setIfInBounds_toArray, List.set_cons_zero, List.set_cons_succ])
    refine wpAnyH_take (i := 24) (oi := ⟨_, _, _, _, _, _⟩) (v := undef) rfl (by kernel_rfl) (by kernel_rfl) (by kernel_rfl) (fun _ _ _ h => h) (Or.inr ⟨by rfl, rfl⟩) (by assumption) ?_
    (try simp only [Act.put, List.setIfInBounds_toArray, List.set_cons_zero, List.set_cons_succ])
    refine wpAnyH_take (i := 25) (oi := ⟨_, _, _, _, _, _⟩) (v := undef) rfl (by kernel_rfl) (by kernel_rfl) (by kernel_rfl) (fun _ _ _ h => h) (Or.inr ⟨by rfl, rfl⟩) (by assumption) ?_
    (try simp only [Act.put, List.setIfInBounds_toArray, List.set_cons_zero, List.set_cons_succ])
    refine wpAnyH_take (i := 26) (oi := ⟨_, _, _, _, _, _⟩) (v := undef) rfl (by kernel_rfl) (by kernel_rfl) (by kernel_rfl) (fun _ _ _ h => h) (Or.inr ⟨by rfl, rfl⟩) (by assumption) ?_
    (try simp only [Act.put, List.setIfInBounds_toArray, List.set_cons_zero, List.set_cons_succ])
    refine wpAnyH_take (i := 27) (oi := ⟨_, _, _, _, _, _⟩) (v := undef) rfl (by kernel_rfl) (by kernel_rfl) (by kernel_rfl) (fun _ _ _ h => h) (Or.inr ⟨by rfl, rfl⟩) (by assumption) ?_
    (try simp only [Act.put, List.setIfInBounds_toArray, List.set_cons_zero, List.set_cons_succ])
    refine wpAnyH_take (i := 28) (oi := ⟨_, _, _, _, _, _⟩) (v := undef) rfl (by kernel_rfl) (by kernel_rfl) (by kernel_rfl) (fun _ _ _ h => h) (Or.inr ⟨by rfl, rfl⟩) (by assumption) ?_
    (try simp only [Act.put, List.setIfInBounds_toArray, List.set_cons_zero, List.set_cons_succ])
    refine wpAnyH_take (i := 29) (oi := ⟨_, _, _, _, _, _⟩) (v := undef) rfl (by kernel_rfl) (by kernel_rfl) (by kernel_rfl) (fun _ _ _ h => h) (Or.inr ⟨by rfl, rfl⟩) (by assumption) ?_
    (try simp only [Act.put, List.setIfInBounds_toArray, List.set_cons_zero, List.set_cons_succ])
    refine wpAnyH_take (i := 30) (oi := ⟨_, _, _, _, _, _⟩) (v := undef) rfl (by kernel_rfl) (by kernel_rfl) (by kernel_rfl) (fun _ _ _ h => h) (Or.inr ⟨by rfl, rfl⟩) (by assumption) ?_
    (try simp only [Act.put, List.setIfInBounds_toArray, List.set_cons_zero, List.set_cons_succ])
    refine wpAnyH_take (i := 31) (oi := ⟨_, _, _, _, _, _⟩) (v := undef) rfl (by kernel_rfl) (by kernel_rfl) (by kernel_rfl) (fun _ _ _ h => h) (Or.inr ⟨by rfl, rfl⟩) (by assumption) ?_
    (try simp only [Act.put, List.setIfInBounds_toArray, List.set_cons_zero, List.set_cons_succ])
    refine wpAnyH_take (i := 32) (oi := ⟨_, _, _, _, _, _⟩) (v := undef) rfl (by kernel_rfl) (by kernel_rfl) (by kernel_rfl) (fun _ _ _ h => h) (Or.inr ⟨by rfl, rfl⟩) (by assumption) ?_
    (try simp only [Act.put, List.setIfInBounds_toArray, List.set_cons_zero, List.set_cons_succ])
    refine wpAnyH_take (i := 33) (oi := ⟨_, _, _, _, _, _⟩) (v := undef) rfl (by kernel_rfl) (by kernel_rfl) (by kernel_rfl) (fun _ _ _ h => h) (Or.inr ⟨by rfl, rfl⟩) (by assumption) ?_
    (try simp only [Act.put, List.setIfInBounds_toArray, List.set_cons_zero, List.set_cons_succ])
    refine wpAnyH_take (i := 34) (oi := ⟨_, _, _, _, _, _⟩) (v := ?_) rfl (by kernel_rfl) (by kernel_rfl) (by kernel_rfl) (fun _ _ _ h => h) (Or.inl ⟨by rfl, ?_⟩) (by assumption) ?_
    rotate_left
    · intro w hSw
      (try dsimp only at hSw)
      go_simp
      (try with_reducible rfl)
    (try simp only [Act.put, List.setIfInBounds_toArray, List.set_cons_zero, List.set_cons_succ])
    refine wpAnyH_done (by kernel_rfl) ?_ _
    clear hHeld
    obtain ⟨c1, hc1⟩ : ∃ c1, c1 = cnt + 1 := ⟨_, rfl⟩
    have haddc : IntKind.i64.wrap ((cnt : Int) + 1) = (c1 : Int) := by rw [IntKind.wrap_i64]; omega
    have HC1 := Lib.hid hc1
    have HSC := Lib.hid (show st = (c1, if cnt = 0 then path ++ [(x : Int)] else found) from by
      rw [HSTE.out, allW, List.foldl_cons, List.foldl_nil, scanC, hc1]
      cases hfi9 : fi with
      | false => rfl
      | true => rw [HFI.out hfi9]; rfl)
    clear hKt hc1 y2 y3 y4
    go_upto_region 7 with fail
    obtain ⟨S6, hS6⟩ : ∃ S6, S6 = (S5.setCell ⟨tb, 6, none⟩ (.int .i64 (c1 : Int))).drew := ⟨_, rfl⟩
    rw [← hS6]
    have hg6 : S5.grownBy S6 (some tb) := by rw [hS6]; have h9 := grown_set S5 tb 6 (.int .i64 (c1 : Int)); exact ⟨h9.os, h9.tape, h9.output, h9.size, h9.block⟩
    have hst6 : S6.heap[tb]? = some (.cells #[.slice (some ⟨lb, 0, none⟩) N N, .slice (some ⟨vb, 0, none⟩) N N, .slice A2 (n + 1) c2, .int .i64 ((l0 : Int) : Int), .bool false, .bool fi, .int .i64 (c1 : Int), .slice F nf cf] 51 (0, 0)) := by
      have h9 := heap_set (W := S5) (j := 6) (.int .i64 (c1 : Int)) HSR5.out.st
      rw [hS6]; exact h9
    have hlt6 := HSR5.out.lt
    have hv6 := (hg6.block vb (lt_of_at9 HSR5.out.vis) (by simp; omega)).trans HSR5.out.vis
    have hk6 : Kp LB tb vb S5 S6 := Kp.grown hg6 hlt6.2.2.2.2.2.2 (fun q e => .inr (.inl (by injection e with e; exact e.symm)))
    have HSR6 := Lib.hid (HSR5.out.turned hk6 hst6 hv6)
    have HO6 := Lib.hid (HO5.out.apart hg6 (fun q hq e => by have := (row_low HO5.out q hq).1; injection e with e; omega))
    have HF6 := Lib.hid (HF5.out.apart hg6 (fun q hq e => by have := (row_low HF5.out q hq).1; injection e with e; omega))
    have HK6 := Lib.hid (HK5.out.trans hk6)
    have y6' : S6.cell? ⟨tb, 6, none⟩ = some (.int .i64 (c1 : Int)) := by rw [cell_of_row _ _ _ _ _ _ hst6]; rfl
    have y2' : S6.cell? ⟨tb, 2, none⟩ = some (.slice A2 (n + 1) c2) := by rw [cell_of_row _ _ _ _ _ _ hst6]; rfl
    clear hS6 hg6 hst6 hv6 hk6 y6 f6 haddc
    by_cases hc0 : cnt = 0
    · have hz7 : ((c1 : Int) == 1) = true := by have := HC1.out; simp; omega
      have HS1 := Lib.hid (show st = (c1, path ++ [(x : Int)]) from by rw [HSC.out, if_pos hc0])
      clear hc0
      go_wp2_with fail
      refine (l1Own_all A2 (n + 1) c2 (path ++ [(x : Int)]) _ HO6.out.rd (by omega)).mono ?_
      rintro e wv ⟨F2, cf2, rfl, ownF, hb⟩
      have hst7 := (hb.block tb (lt_of_at9 HSR6.out.st)).trans HSR6.out.st
      have y7 : wv.cell? ⟨tb, 7, none⟩ = some (.slice F nf cf) := by rw [cell_of_row _ _ _ _ _ _ hst7]; rfl
      have f7 : wv.frozen? ⟨tb, 7, none⟩ = false := frozen_of_row _ _ _ _ _ hst7
      have hlt7 := HSR6.out.lt
      have hs9 := grown_set wv tb 7 (.slice F2 (n + 1) cf2)
      have hst9 : (wv.setCell ⟨tb, 7, none⟩ (.slice F2 (n + 1) cf2)).heap[tb]? = some (.cells #[.slice (some ⟨lb, 0, none⟩) N N, .slice (some ⟨vb, 0, none⟩) N N, .slice A2 (n + 1) c2, .int .i64 ((l0 : Int) : Int), .bool false, .bool fi, .int .i64 (c1 : Int), .slice F2 (n + 1) cf2] 51 (0, 0)) := by rw [heap_set _ hst7]; rfl
      have hv9 := (hs9.block vb (Nat.lt_of_lt_of_le (lt_of_at9 HSR6.out.vis) hb.size) (by simp; omega)).trans ((hb.block vb (lt_of_at9 HSR6.out.vis)).trans HSR6.out.vis)
      have hLw : LB ≤ wv.heap.size := Nat.le_trans hlt7.2.2.2.2.2.2 hb.size
      have hk9 : Kp LB tb vb S6 (wv.setCell ⟨tb, 7, none⟩ (.slice F2 (n + 1) cf2)) := (Kp.below hb hlt7.2.2.2.2.2.2).trans (Kp.grown hs9 hLw (fun q e => .inr (.inl (by injection e with e; exact e.symm))))
      have HSR9 := Lib.hid (show SrAt _ LB tb lb vb N adj cells (path ++ [(x : Int)]) A2 (n + 1) c2 l0 false fi st.1 F2 (n + 1) cf2 from by rw [HS1.out]; exact HSR6.out.turned hk9 hst9 hv9)
      have hO7 := HO6.out.keep hb
      have HO9 := Lib.hid (hO7.apart hs9 (fun q hq e => by have := (row_low hO7 q hq).1; injection e with e; omega))
      have hrf := row_low ownF
      have HF9 := Lib.hid (show OwnI 3 _ LB F2 (n + 1) cf2 st.2 from by rw [HS1.out]; exact (ownF.lower hlt7.2.2.2.2.2.2).apart hs9 (fun q hq e => by have := (hrf q hq).1; injection e with e; omega))
      have HA9 := Lib.hid (show Apart A2 F2 from fun q hq e => by have h1 := (hrf q hq).1; have h2 := (row_low HO6.out q e).2; omega)
      have HK9 := Lib.hid (HK6.out.trans hk9)
      clear hst7 hs9 hst9 hv9 hk9 hO7 hrf ownF hb
      go_wp2_with fail
      exact HT.out _ _ A2 c2 F2 (n + 1) cf2 rfl HSR9.out HO9.out HF9.out HA9.out HK9.out
    · have hz7 : ((c1 : Int) == 1) = false := by have := HC1.out; simp; omega
      have HS1 := Lib.hid (show st = (c1, found) from by rw [HSC.out, if_neg hc0])
      clear hc0
      have HSR9 := Lib.hid (show SrAt S6 LB tb lb vb N adj cells (path ++ [(x : Int)]) A2 (n + 1) c2 l0 false fi st.1 F nf cf from by rw [HS1.out]; exact HSR6.out)
      have HF9 := Lib.hid (show OwnI 3 S6 LB F nf cf st.2 from by rw [HS1.out]; exact HF6.out)
      go_wp2_with fail
      exact HT.out _ _ A2 c2 F nf cf rfl HSR9.out HO6.out HF9.out HAP5.out HK6.out
  | succ k ih => 
    intro w path found A n c cnt F nf cf x h hown hfo hap hwk hin hlen hfi hcb hk19
    obtain ⟨l1, hl1⟩ : ∃ l1, l1 = (k + 1) + 1 := ⟨_, rfl⟩
    obtain ⟨l0, hl0⟩ : ∃ l0, l0 = (k + 1) := ⟨_, rfl⟩
    have HL1 := Lib.hid hl1; have HL0 := Lib.hid hl0
    rw [← hl1] at h ⊢
    have hsubk : IntKind.i64.wrap ((l1 : Int) - 1) = (l0 : Int) := by rw [IntKind.wrap_i64]; omega
    have haddk : IntKind.i64.wrap ((l0 : Int) + 1) = (l1 : Int) := by rw [IntKind.wrap_i64]; omega
    clear hl1 hl0
    have hcb4 := Lib.hid hcb
    have hN := h.ranges
    have hxN := hN.1 (x : Int) (hin _ (by simp))
    have hlt := h.lt
    have hn64 : n ≤ 64 := by have h1 := nodup_most hN.2.2.2.2 hN.1; have h2 := hown.len; omega
    have HNX := Lib.hid (show (x : Int) ∉ path from by have := hwk.1; rw [List.nodup_append] at this; exact fun hm => this.2.2 _ hm _ (by simp) rfl)
    obtain ⟨i0, hi, hz0, hz1, hz2⟩ := info_parts infoI
    have HI := Lib.hid hi; have HZ0 := Lib.hid hz0; have HZ1 := Lib.hid hz1; have HZ2 := Lib.hid hz2
    clear hi hz0 hz1 hz2
    have x0 : (0 : Int) ≤ (x : Int) := by omega
    have xN : (x : Int) < (N : Int) := by omega
    have t1 : w.cell? ⟨tb, 1, none⟩ = some (.slice (some ⟨vb, 0, none⟩) N N) := by rw [cell_of_row _ _ _ _ _ _ h.st]; rfl
    have v0 : w.cell? ⟨vb, x, none⟩ = some (.bool (path.contains (x : Int))) := by
      rw [cell_of_row _ _ _ _ _ _ h.vis, List.getElem?_toArray, List.getElem?_map, boolRow_at (f := fun i => path.contains (i : Int)) (by omega : x < N)]; rfl
    have v1 : w.frozen? ⟨vb, x, none⟩ = false := frozen_of_row _ _ _ _ _ h.vis
    -- behind the first store
    obtain ⟨S1, hS1⟩ : ∃ S1, S1 = w.setCell ⟨vb, x, none⟩ (.bool true) := ⟨_, rfl⟩
    have hgS1 : w.grownBy S1 (some vb) := by rw [hS1]; exact grown_set _ _ _ _
    have hk1 : Kp LB tb vb w S1 := Kp.grown hgS1 hlt.2.2.2.2.2.2 (fun q e => .inr (.inr (by injection e with e; exact e.symm)))
    have hst1 := (hgS1.block tb (by omega) (by simp; omega)).trans h.st
    have hvis1 : S1.heap[vb]? = some (.cells ((boolRow (fun i => (path ++ [(x : Int)]).contains (i : Int)) N).map Value.bool).toArray 4 (0, 0)) := by
      rw [hS1, heap_set _ h.vis]
      have e := vis_set (path := path) (N := N) (x := x) true
      rw [vis_push] at e
      rw [← e]; simp
    have hown1 : OwnI 3 S1 LB A n c path := hown.apart hgS1 (fun q hq e => by have := (row_low hown q hq).1; injection e with e; omega)
    have hfo1 : OwnI 3 S1 LB F nf cf found := hfo.apart hgS1 (fun q hq e => by have := (row_low hfo q hq).1; injection e with e; omega)
    have s2 : (S1.alloc (.cells #[.int .i64 (x : Int)] 3)).cell? ⟨tb, 2, none⟩ = some (.slice A n c) := cell_keep (w := S1) (by rw [cell_of_row _ _ _ _ _ _ hst1]; rfl) (lt_of_at9 hst1) (below_new (Below.refl _ _) _)
    have s2' : S1.cell? ⟨tb, 2, none⟩ = some (.slice A n c) := by rw [cell_of_row _ _ _ _ _ _ hst1]; rfl
    have hs1z : LB ≤ S1.heap.size := Nat.le_trans hlt.2.2.2.2.2.2 hgS1.size
    have HST1 := Lib.hid hst1; have HVIS1 := Lib.hid hvis1; have HO1 := Lib.hid hown1; have HF1 := Lib.hid hfo1; have HK1 := Lib.hid hk1; have HSR := Lib.hid h; have HAP := Lib.hid hap; have HWK := Lib.hid hwk; have HIN := Lib.hid hin; have HLEN := Lib.hid hlen; have HFI := Lib.hid hfi
    have HLT := Lib.hid hlt
    clear hst1 hvis1 hown1 hfo1 hk1 h hown hfo hap hwk hin hlen hfi hgS1 hN
    go_enter Tryz.func53, Tryz.ntmps53
    go_upto_region 1 with fail
    rw [← hS1]
    clear hS1 t1 v0 v1
    go_upto_region 2 with (at_builtin; refine wpList_appR rfl (.tmp 17) (.tmp 19) 22 3 rfl i0 Tryz.underlying22 HI.out HZ0.out HZ1.out HZ2.out LB A n c path (x : Int) rfl HO1.out rfl (by omega) hs1z ?_; intro A2 c2 w3 hO3 hg3 hr3; have hst3 := (hg3.block tb (lt_of_at9 HST1.out) (fun e => by have h1 := (row_low HO1.out tb e.symm).1; have h2 := HLT.out; omega)).trans HST1.out; have u2 : w3.cell? ⟨tb, 2, none⟩ = some (.slice A n c) := (by rw [cell_of_row _ _ _ _ _ _ hst3]; rfl); have u2f : w3.frozen? ⟨tb, 2, none⟩ = false := frozen_of_row _ _ _ _ _ hst3; have HG3 := Lib.hid hg3; have HO3 := Lib.hid hO3; have HR3 := Lib.hid hr3; have HST3 := Lib.hid hst3; clear hg3 hO3 hr3 hst3)
    obtain ⟨S3, hS3⟩ : ∃ S3, S3 = w3.setCell ⟨tb, 2, none⟩ (.slice A2 (n + 1) c2) := ⟨_, rfl⟩
    have hg33 : w3.grownBy S3 (some tb) := by rw [hS3]; exact grown_set _ _ _ _
    have hst33 : S3.heap[tb]? = some (.cells #[.slice (some ⟨lb, 0, none⟩) N N, .slice (some ⟨vb, 0, none⟩) N N, .slice A2 (n + 1) c2, .int .i64 ((l1 : Int) : Int), .bool false, .bool fi, .int .i64 (cnt : Int), .slice F nf cf] 51 (0, 0)) := by rw [hS3, heap_set _ HST3.out]; rfl
    have z3 : S3.cell? ⟨tb, 3, none⟩ = some (.int .i64 (l1 : Int)) := by rw [cell_of_row _ _ _ _ _ _ hst33]; rfl
    have z3f : S3.frozen? ⟨tb, 3, none⟩ = false := frozen_of_row _ _ _ _ _ hst33
    have HG33 := Lib.hid hg33; have HST33 := Lib.hid hst33
    rw [← hS3]
    clear hS3 hg33 hst33 u2 u2f s2 s2'
    go_upto_region 3 with fail
    obtain ⟨S5, hS5⟩ : ∃ S5, S5 = S3.setCell ⟨tb, 3, none⟩ (.int .i64 (l0 : Int)) := ⟨_, rfl⟩
    rw [← hS5]
    have hg55 : S3.grownBy S5 (some tb) := by rw [hS5]; exact grown_set _ _ _ _
    have hst55 : S5.heap[tb]? = some (.cells #[.slice (some ⟨lb, 0, none⟩) N N, .slice (some ⟨vb, 0, none⟩) N N, .slice A2 (n + 1) c2, .int .i64 ((l0 : Int) : Int), .bool false, .bool fi, .int .i64 (cnt : Int), .slice F nf cf] 51 (0, 0)) := by rw [hS5, heap_set _ HST33.out]; rfl
    have htbL : ∀ q, rowOf A = some q → LB ≤ q := fun q e => (row_low HO1.out q e).1
    have hls := HLT.out
    have hk3 : Kp LB tb vb S1 w3 := Kp.grown HG3.out hs1z (fun q e => .inl (htbL q e))
    have hk33 : Kp LB tb vb w3 S3 := Kp.grown HG33.out (Nat.le_trans hs1z HG3.out.size) (fun q e => by cases e; exact .inr (.inl rfl))
    have hk55 : Kp LB tb vb S3 S5 := Kp.grown hg55 (Nat.le_trans hs1z (Nat.le_trans HG3.out.size HG33.out.size)) (fun q e => by cases e; exact .inr (.inl rfl))
    have HK5 := Lib.hid (((HK1.out.trans hk3).trans hk33).trans hk55)
    have hv55 : S5.heap[vb]? = some (.cells ((boolRow (fun i => (path ++ [(x : Int)]).contains (i : Int)) N).map Value.bool).toArray 4 (0, 0)) :=
      (hg55.block vb (by have := HG3.out.size; have := HG33.out.size; omega) (by simp; omega)).trans ((HG33.out.block vb (by have := HG3.out.size; omega) (by simp; omega)).trans ((HG3.out.block vb (by omega) (fun e => by have := htbL vb e.symm; omega)).trans HVIS1.out))
    have HSR5 := Lib.hid (HSR.out.turned HK5.out hst55 hv55)
    have hA2 : ∀ q, rowOf A2 = some q → LB ≤ q := fun q e => (row_low HO3.out q e).1
    have HO5 := Lib.hid ((HO3.out.apart HG33.out (fun q hq e => by have := hA2 q hq; injection e with e; omega)).apart hg55 (fun q hq e => by have := hA2 q hq; injection e with e; omega))
    have hF1 := row_low HF1.out
    have HF3 := Lib.hid (HF1.out.apart HG3.out (fun q hq e => HAP.out q hq e))
    have HF5 := Lib.hid ((HF3.out.apart HG33.out (fun q hq e => by have := (hF1 q hq).1; injection e with e; omega)).apart hg55 (fun q hq e => by have := (hF1 q hq).1; injection e with e; omega))
    have HAP5 := Lib.hid (show Apart A2 F from fun q hq e => by
      rcases HR3.out with h1 | ⟨k9, h1, h2⟩
      · exact HAP.out q hq (h1 ▸ e)
      · rw [h1] at e; injection e with e; have := (hF1 q hq).2; omega)
    clear hg55 hst55 hk3 hk33 hk55 hv55 hS5 htbL hA2 hF1 z3 z3f hsubk HG33 HST33 HST3 HG3 HO3 HR3 HF3 HF1 HO1 HK1 HVIS1 HST1
    rename_i Kt hKt Kr hKr
    obtain ⟨st, hst⟩ : ∃ st, st = (allW adj (k + 1) (path ++ [(x : Int)])).foldl (scanC fi) (cnt, found) := ⟨_, rfl⟩
    have HSTE := Lib.hid hst
    have HT := Lib.hid (show ∀ (T : Array Value) (V : World) (A' : Option Addr) (c' : Nat) (F' : Option Addr) (nf' cf' : Nat), T = #[.pointer (some ⟨tb, 0, none⟩), .int .i64 (x : Int), T.getD 2 undef, T.getD 3 undef, T.getD 4 undef, T.getD 5 undef, T.getD 6 undef, T.getD 7 undef, T.getD 8 undef, T.getD 9 undef, T.getD 10 undef, T.getD 11 undef, T.getD 12 undef, T.getD 13 undef, T.getD 14 undef, T.getD 15 undef, T.getD 16 undef, T.getD 17 undef, T.getD 18 undef, T.getD 19 undef, T.getD 20 undef, T.getD 21 undef, T.getD 22 undef, T.getD 23 undef, T.getD 24 undef, T.getD 25 undef, T.getD 26 undef, T.getD 27 undef, T.getD 28 undef, T.getD 29 undef, T.getD 30 undef, T.getD 31 undef, T.getD 32 undef, T.getD 33 undef, T.getD 34 undef, T.getD 35 undef, T.getD 36 undef, T.getD 37 undef, T.getD 38 undef, T.getD 39 undef, T.getD 40 undef, T.getD 41 undef, T.getD 42 undef, T.getD 43 undef, T.getD 44 undef, T.getD 45 undef, T.getD 46 undef, T.getD 47 undef, T.getD 48 undef, T.getD 49 undef, T.getD 50 undef, T.getD 51 undef, T.getD 52 undef, T.getD 53 undef, T.getD 54 undef, T.getD 55 undef, T.getD 56 undef, T.getD 57 undef, T.getD 58 undef, T.getD 59 undef, T.getD 60 undef, T.getD 61 undef, T.getD 62 undef, T.getD 63 undef, T.getD 64 undef, T.getD 65 undef, T.getD 66 undef, T.getD 67 undef, T.getD 68 undef, T.getD 69 undef, T.getD 70 undef, T.getD 71 undef, T.getD 72 undef, T.getD 73 undef, T.getD 74 undef, T.getD 75 undef, T.getD 76 undef, T.getD 77 undef, T.getD 78 undef, T.getD 79 undef, T.getD 80 undef, T.getD 81 undef, T.getD 82 undef, T.getD 83 undef, T.getD 84 undef, T.getD 85 undef, T.getD 86 undef, T.getD 87 undef, T.getD 88 undef, T.getD 89 undef, T.getD 90 undef, T.getD 91 undef, T.getD 92 undef, T.getD 93 undef, T.getD 94 undef, T.getD 95 undef, T.getD 96 undef, T.getD 97 undef, T.getD 98 undef, T.getD 99 undef, T.getD 100 undef, T.getD 101 undef, T.getD 102 undef, T.getD 103 undef, T.getD 104 undef, T.getD 105 undef, T.getD 106 undef, T.getD 107 undef, T.getD 108 undef, T.getD 109 undef, T.getD 110 undef, T.getD 111 undef, T.getD 112 undef, T.getD 113 undef, T.getD 114 undef, T.getD 115 undef, T.getD 116 undef, T.getD 117 undef, T.getD 118 undef, T.getD 119 undef, T.getD 120 undef, T.getD 121 undef, T.getD 122 undef, T.getD 123 undef, T.getD 124 undef, T.getD 125 undef, T.getD 126 undef, T.getD 127 undef, T.getD 128 undef, T.getD 129 undef, T.getD 130 undef, T.getD 131 undef, T.getD 132 undef, T.getD 133 undef, T.getD 134 undef, T.getD 135 undef, T.getD 136 undef, T.getD 137 undef, T.getD 138 undef, T.getD 139 undef, T.getD 140 undef, T.getD 141 undef, T.getD 142 undef, T.getD 143 undef, T.getD 144 undef, T.getD 145 undef, T.getD 146 undef, T.getD 147 undef, T.getD 148 undef, T.getD 149 undef, T.getD 150 undef, T.getD 151 undef, T.getD 152 undef, T.getD 153 undef, T.getD 154 undef, T.getD 155 undef, T.getD 156 undef, T.getD 157 undef, T.getD 158 undef, T.getD 159 undef, T.getD 160 undef, T.getD 161 undef, T.getD 162 undef, T.getD 163 undef, T.getD 164 undef] → SrAt V LB tb lb vb N adj cells (path ++ [(x : Int)]) A' (n + 1) c' l0 false fi st.1 F' nf' cf' → OwnI 3 V LB A' (n + 1) c' (path ++ [(x : Int)]) → OwnI 3 V LB F' nf' cf' st.2 → Apart A' F' → Kp LB tb vb w V → Kt { tmps := T, defers := [] } V from by
      clear hKr Kr HSR5 HO5 HF5 HAP5 HK5 HSR HFI HAP HLEN ih
      intro T V A' c' F' nf' cf' hT hsr hown hfo hap hkp
      obtain ⟨u, hu⟩ : ∃ u : Nat → Value, u = fun i => T.getD i undef := ⟨_, rfl⟩
      replace hT : T = #[.pointer (some ⟨tb, 0, none⟩), .int .i64 (x : Int), u 2, u 3, u 4, u 5, u 6, u 7, u 8, u 9, u 10, u 11, u 12, u 13, u 14, u 15, u 16, u 17, u 18, u 19, u 20, u 21, u 22, u 23, u 24, u 25, u 26, u 27, u 28, u 29, u 30, u 31, u 32, u 33, u 34, u 35, u 36, u 37, u 38, u 39, u 40, u 41, u 42, u 43, u 44, u 45, u 46, u 47, u 48, u 49, u 50, u 51, u 52, u 53, u 54, u 55, u 56, u 57, u 58, u 59, u 60, u 61, u 62, u 63, u 64, u 65, u 66, u 67, u 68, u 69, u 70, u 71, u 72, u 73, u 74, u 75, u 76, u 77, u 78, u 79, u 80, u 81, u 82, u 83, u 84, u 85, u 86, u 87, u 88, u 89, u 90, u 91, u 92, u 93, u 94, u 95, u 96, u 97, u 98, u 99, u 100, u 101, u 102, u 103, u 104, u 105, u 106, u 107, u 108, u 109, u 110, u 111, u 112, u 113, u 114, u 115, u 116, u 117, u 118, u 119, u 120, u 121, u 122, u 123, u 124, u 125, u 126, u 127, u 128, u 129, u 130, u 131, u 132, u 133, u 134, u 135, u 136, u 137, u 138, u 139, u 140, u 141, u 142, u 143, u 144, u 145, u 146, u 147, u 148, u 149, u 150, u 151, u 152, u 153, u 154, u 155, u 156, u 157, u 158, u 159, u 160, u 161, u 162, u 163, u 164] := by rw [hu]; exact hT
      subst hT
      clear hu
      refine hKt _ _ ?_
      have hlt := hsr.lt
      have t1 : V.cell? ⟨tb, 1, none⟩ = some (.slice (some ⟨vb, 0, none⟩) N N) := by rw [cell_of_row _ _ _ _ _ _ hsr.st]; rfl
      have v0 : V.cell? ⟨vb, x, none⟩ = some (.bool ((path ++ [(x : Int)]).contains (x : Int))) := by
        rw [cell_of_row _ _ _ _ _ _ hsr.vis, List.getElem?_toArray, List.getElem?_map, boolRow_at (f := fun i => (path ++ [(x : Int)]).contains (i : Int)) (by omega : x < N)]; rfl
      have v1 : V.frozen? ⟨vb, x, none⟩ = false := frozen_of_row _ _ _ _ _ hsr.vis
      obtain ⟨V1, hV1⟩ : ∃ V1, V1 = V.setCell ⟨vb, x, none⟩ (.bool false) := ⟨_, rfl⟩
      have hg1 : V.grownBy V1 (some vb) := by rw [hV1]; exact grown_set _ _ _ _
      have hst1 := (hg1.block tb (by omega) (by simp; omega)).trans hsr.st
      have hvis1 : V1.heap[vb]? = some (.cells ((boolRow (fun i => path.contains (i : Int)) N).map Value.bool).toArray 4 (0, 0)) := by
        rw [hV1, heap_set _ hsr.vis]
        have e := vis_set (path := path ++ [(x : Int)]) (N := N) (x := x) false
        rw [vis_pop HNX.out] at e
        rw [← e]; simp
      have hrA := row_low hown
      have hrF := row_low hfo
      have hown1 : OwnI 3 V1 LB A' (n + 1) c' (path ++ [(x : Int)]) := hown.apart hg1 (fun q hq e => by have := (hrA q hq).1; injection e with e; omega)
      have hfo1 : OwnI 3 V1 LB F' nf' cf' st.2 := hfo.apart hg1 (fun q hq e => by have := (hrF q hq).1; injection e with e; omega)
      have hkp1 : Kp LB tb vb w V1 := hkp.trans (Kp.grown hg1 hlt.2.2.2.2.2.2 (fun q e => .inr (.inr (by injection e with e; exact e.symm))))
      have HST1 := Lib.hid hst1; have HVIS1 := Lib.hid hvis1; have HO1 := Lib.hid hown1; have HF1 := Lib.hid hfo1; have HK1 := Lib.hid hkp1; have HSR := Lib.hid hsr; have HAP := Lib.hid hap; have HG1 := Lib.hid hg1
      have HRA := Lib.hid hrA; have HRF := Lib.hid hrF
      clear hst1 hvis1 hown1 hfo1 hkp1 hsr hown hfo hap hkp hg1 hrA hrF
      go_upto_region 17 with fail
      rw [← hV1]
      clear hV1 t1 v0 v1
      obtain ⟨gp, rfl, hgp1, hgp2, hnc⟩ : ∃ gp, A' = some ⟨gp, 0, none⟩ ∧ LB ≤ gp ∧ gp < V1.heap.size ∧ n + 1 ≤ c' := by
        rcases HO1.out.form with ⟨_, h0, _⟩ | ⟨g, h1, h2, h3, h4, _⟩
        · omega
        · exact ⟨g, h1, h2, h3, h4⟩
      have hc63 : c' ≤ 9223372036854775807 := by
        rcases HO1.out.form with ⟨_, h0, _⟩ | ⟨g, h1, h2, h3, h4, h5⟩
        · omega
        · unfold maxLen at h5; omega
      have zc : V1.drew.cell? ⟨tb, 2, none⟩ = some (.slice (some ⟨gp, 0, none⟩) (n + 1) c') := by show V1.cell? _ = _; rw [cell_of_row _ _ _ _ _ _ HST1.out]; rfl
      have zf : V1.drew.frozen? ⟨tb, 2, none⟩ = false := by show V1.frozen? _ = _; exact frozen_of_row _ _ _ _ _ HST1.out
      have hw1 : IntKind.i64.wrap (n : Int) = (n : Int) := by rw [IntKind.wrap_i64]; omega
      have n0 : (0 : Int) ≤ (n : Int) := by omega
      have nc : (n : Int) ≤ (c' : Int) := by omega
      have ncc : n ≤ c' := by omega
      refine wp_region_held_drew (S := fun _ => True) (by kernel_rfl) trivial (fun hHeld => ?_)
      refine wpAnyH_take (i := 0) (oi := ⟨_, _, _, _, _, _⟩) (v := ?_) rfl (by kernel_rfl) (by kernel_rfl) (by kernel_rfl) (fun _ _ _ h => h) (Or.inl ⟨by rfl, ?_⟩) (by assumption) ?_
      rotate_left
      · intro w hSw
        (try dsimp only at hSw)
        go_simp
        (try with_reducible rfl)
      (try simp only [Act.put, List.setIfInBounds_toArray, List.set_cons_zero, List.set_cons_succ])
      refine wpAnyH_take (i := 1) (oi := ⟨_, _, _, _, _, _⟩) (v := ?_) rfl (by kernel_rfl) (by kernel_rfl) (by kernel_rfl) (fun _ _ _ h => h) (Or.inl ⟨by rfl, ?_⟩) (by assumption) ?_
      rotate_left
      · intro w hSw
        (try dsimp only at hSw)
        go_simp
        (try with_reducible rfl)
      (try simp only [Act.put, List.setIfInBounds_toArray, List.set_cons_zero, List.set_cons_succ])
      refine wpAnyH_take (i := 2) (oi := ⟨_, _, _, _, _, _⟩) (v := ?_) rfl (by kernel_rfl) (by kernel_rfl) (by kernel_rfl) (fun _ _ _ h => h) (Or.inl ⟨by rfl, ?_⟩) (by assumption) ?_
      rotate_left
      · intro w hSw
        (try dsimp only at hSw)
        go_simp
        (try with_reducible rfl)
      (try simp only [Act.put, List.setIfInBounds_toArray, List.set_cons_zero, List.set_cons_succ])
      refine wpAnyH_take (i := 3) (oi := ⟨_, _, _, _, _, _⟩) (v := ?_) rfl (by kernel_rfl) (by kernel_rfl) (by kernel_rfl) (fun _ _ _ h => h) (Or.inl ⟨by rfl, ?_⟩) (by assumption) ?_
      rotate_left
      · intro w hSw
        (try dsimp only at hSw)
        go_simp
        (try with_reducible rfl)
      (try simp only [Act.put, List.setIfInBounds_toArray, List.set_cons_zero, List.set_cons_succ])
      refine wpAnyH_take (i := 5) (oi := ⟨_, _, _, _, _, _⟩) (v := ?_) rfl (by kernel_rfl) (by kernel_rfl) (by kernel_rfl) (fun _ _ _ h => h) (Or.inl ⟨by rfl, ?_⟩) (by assumption) ?_
      rotate_left
      · intro w hSw
        (try dsimp only at hSw)
        go_simp
        (try with_reducible rfl)
      (try simp only [Act.put, List.setIfInBounds_toArray, List.set_cons_zero, List.set_cons_succ])
      refine wpAnyH_take (i := 6) (oi := ⟨_, _, _, _, _, _⟩) (v := ?_) rfl (by kernel_rfl) (by kernel_rfl) (by kernel_rfl) (fun _ _ _ h => h) (Or.inl ⟨by rfl, ?_⟩) (by assumption) ?_
      rotate_left
      · intro w hSw
        (try dsimp only at hSw)
        go_simp
        (try with_reducible rfl)
      (try simp only [Act.put, List.setIfInBounds_toArray, List.set_cons_zero, List.set_cons_succ])
      refine wpAnyH_take (i := 7) (oi := ⟨_, _, _, _, _, _⟩) (v := ?_) rfl (by kernel_rfl) (by kernel_rfl) (by kernel_rfl) (fun _ _ _ h => h) (Or.inl ⟨by rfl, ?_⟩) (by assumption) ?_
      rotate_left
      · intro w hSw
        (try dsimp only at hSw)
        go_simp
        (try with_reducible rfl)
      (try simp only [Act.put, List.setIfInBounds_toArray, List.set_cons_zero, List.set_cons_succ])
      refine wpAnyH_ready (rs := [4, 8]) (by kernel_rfl) (by simp) ?_
      refine AllReadyH.cons (o := ⟨_, _, _, _, _, _⟩) rfl (fun K hK => ?_) ?_
      · go_simp
        skip
        refine hK.out _ _ ?_ (fun hHeld => ?_)
        · (try dsimp only)
          first | done | trivial
        clear hK K
        (try simp only [Act.put, List.setIfInBounds_toArray, List.set_cons_zero, List.set_cons_succ])
        refine wpAnyH_ready (rs := [8]) (by kernel_rfl) (by simp) ?_
        refine AllReadyH.cons (o := ⟨_, _, _, _, _, _⟩) rfl (fun K hK => ?_) AllReadyH.nil
        go_simp
        skip
        refine hK.out _ _ ?_ (fun hHeld => ?_)
        · (try dsimp only)
          first | done | trivial
        clear hK K
        (try simp only [Act.put, List.setIfInBounds_toArray, List.set_cons_zero, List.set_cons_succ])
        refine wpAnyH_take (i := 9) (oi := ⟨_, _, _, _, _, _⟩) (v := ?_) rfl (by kernel_rfl) (by kernel_rfl) (by kernel_rfl) (fun _ _ _ h => h) (Or.inl ⟨by rfl, ?_⟩) (by assumption) ?_
        rotate_left
        · intro w hSw
          (try dsimp only at hSw)
          go_simp
          (try with_reducible rfl)
        (try simp only [Act.put, List.setIfInBounds_toArray, List.set_cons_zero, List.set_cons_succ])
        refine wpAnyH_take (i := 10) (oi := ⟨_, _, _, _, _, _⟩) (v := ?_) rfl (by kernel_rfl) (by kernel_rfl) (by kernel_rfl) (fun _ _ _ h => h) (Or.inl ⟨by rfl, ?_⟩) (by assumption) ?_
        rotate_left
        · intro w hSw
          (try dsimp only at hSw)
          go_simp
          (try with_reducible rfl)
        (try simp only [Act.put, List.setIfInBounds_toArray, List.set_cons_zero, List.set_cons_succ])
        refine wpAnyH_take (i := 11) (oi := ⟨_, _, _, _, _, _⟩) (v := ?_) rfl (by kernel_rfl) (by kernel_rfl) (by kernel_rfl) (fun _ _ _ h => h) (Or.inl ⟨by rfl, ?_⟩) (by assumption) ?_
        rotate_left
        · intro w hSw
          (try dsimp only at hSw)
          go_simp
          (try with_reducible rfl)
        (try simp only [Act.put, List.setIfInBounds_toArray, List.set_cons_zero, List.set_cons_succ])
        refine wpAnyH_take (i := 12) (oi := ⟨_, _, _, _, _, _⟩) (v := ?_) rfl (by kernel_rfl) (by kernel_rfl) (by kernel_rfl) (fun _ _ _ h => h) (Or.inl ⟨by rfl, ?_⟩) (by assumption) ?_
        rotate_left
        · intro w hSw
          (try dsimp only at hSw)
          go_simp
          (try with_reducible rfl)
        (try simp only [Act.put, List.setIfInBounds_toArray, List.set_cons_zero, List.set_cons_succ])
        refine wpAnyH_take (i := 13) (oi := ⟨_, _, _, _, _, _⟩) (v := ?_) rfl (by kernel_rfl) (by kernel_rfl) (by kernel_rfl) (fun _ _ _ h => h) (Or.inl ⟨by rfl, ?_⟩) (by assumption) ?_
        rotate_left
        · intro w hSw
          (try dsimp only at hSw)
          go_simp
          (try with_reducible rfl)
        (try simp only [Act.put, List.setIfInBounds_toArray, List.set_cons_zero, List.set_cons_succ])
        refine wpAnyH_ready (rs := [14]) (by kernel_rfl) (by simp) ?_
        refine AllReadyH.cons (o := ⟨_, _, _, _, _, _⟩) rfl (fun K hK => ?_) AllReadyH.nil
        go_simp
        skip
        refine hK.out _ _ ?_ (fun hHeld => ?_)
        · (try dsimp only)
          first | done | trivial
        clear hK K
        (try simp only [Act.put, List.setIfInBounds_toArray, List.set_cons_zero, List.set_cons_succ])
        refine wpAnyH_done (by kernel_rfl) ?_ _
        clear hHeld
        obtain ⟨V3, hV3⟩ : ∃ V3, V3 = (V1.setCell ⟨tb, 2, none⟩ (.slice (some ⟨gp, 0, none⟩) n c')).drew := ⟨_, rfl⟩
        rw [← hV3]
        have hg3 : V1.grownBy V3 (some tb) := by rw [hV3]; have h9 := grown_set V1 tb 2 (.slice (some ⟨gp, 0, none⟩) n c'); exact ⟨h9.os, h9.tape, h9.output, h9.size, h9.block⟩
        have hst3 : V3.heap[tb]? = some (.cells #[.slice (some ⟨lb, 0, none⟩) N N, .slice (some ⟨vb, 0, none⟩) N N, .slice (some ⟨gp, 0, none⟩) n c', .int .i64 ((l0 : Int) : Int), .bool false, .bool fi, .int .i64 (st.1 : Int), .slice F' nf' cf'] 51 (0, 0)) := by
          have h9 := heap_set (W := V1) (j := 2) (.slice (some ⟨gp, 0, none⟩) n c') HST1.out
          rw [hV3]; exact h9
        have z3 : V3.cell? ⟨tb, 3, none⟩ = some (.int .i64 (l0 : Int)) := by rw [cell_of_row _ _ _ _ _ _ hst3]; rfl
        have z3f : V3.frozen? ⟨tb, 3, none⟩ = false := frozen_of_row _ _ _ _ _ hst3
        have hs5 := grown_set V3 tb 3 (.int .i64 (l1 : Int))
        have hst5 : (V3.setCell ⟨tb, 3, none⟩ (.int .i64 (l1 : Int))).heap[tb]? = some (.cells #[.slice (some ⟨lb, 0, none⟩) N N, .slice (some ⟨vb, 0, none⟩) N N, .slice (some ⟨gp, 0, none⟩) n c', .int .i64 ((l1 : Int) : Int), .bool false, .bool fi, .int .i64 (st.1 : Int), .slice F' nf' cf'] 51 (0, 0)) := by rw [heap_set _ hst3]; rfl
        have hg5 : V1.grownBy (V3.setCell ⟨tb, 3, none⟩ (.int .i64 (l1 : Int))) (some tb) := hg3.trans hs5
        have hv5 := (hg5.block vb (lt_of_at9 HVIS1.out) (by simp; omega)).trans HVIS1.out
        have hLV : LB ≤ V1.heap.size := Nat.le_trans hlt.2.2.2.2.2.2 HG1.out.size
        have hkV : Kp LB tb vb V (V3.setCell ⟨tb, 3, none⟩ (.int .i64 (l1 : Int))) := (Kp.grown HG1.out hlt.2.2.2.2.2.2 (fun q e => .inr (.inr (by injection e with e; exact e.symm)))).trans (Kp.grown hg5 hLV (fun q e => .inr (.inl (by injection e with e; exact e.symm))))
        have hkW : Kp LB tb vb w (V3.setCell ⟨tb, 3, none⟩ (.int .i64 (l1 : Int))) := HK1.out.trans (Kp.grown hg5 hLV (fun q e => .inr (.inl (by injection e with e; exact e.symm))))
        have HFS := Lib.hid (HSR.out.turned hkV hst5 hv5)
        have hcut := HO1.out.cut (M := n) (by omega)
        rw [show (path ++ [(x : Int)]).take n = path from by have h9 := HO1.out.len; rw [List.length_append] at h9; simp at h9; rw [List.take_left' (by omega)]] at hcut
        have HFO := Lib.hid (hcut.apart hg5 (fun q hq e => by
          injection e with e
          have hq' : gp = q := by simpa [rowOf] using hq
          omega))
        have HFF := Lib.hid (HF1.out.apart hg5 (fun q hq e => by have := (HRF.out q hq).1; injection e with e; omega))
        have HFK := Lib.hid hkW
        clear hV3 hg3 hst3 hs5 hst5 hg5 hv5 hkV hkW hcut zc zf
        go_wp2_with fail
        go_end0
        exact ⟨_, c', F', nf', cf', ⟨_, rfl⟩, by rw [← HSTE.out]; exact HFS.out, HFO.out, by rw [← HSTE.out]; exact HFF.out, HAP.out, HFK.out⟩
      refine AllReadyH.cons (o := ⟨_, _, _, _, _, _⟩) rfl (fun K hK => ?_) AllReadyH.nil
      go_simp
      skip
      refine hK.out _ _ ?_ (fun hHeld => ?_)
      · (try dsimp only)
        first | done | trivial
      clear hK K
      (try simp only [Act.put, List.setIfInBounds_toArray, List.set_cons_zero, List.set_cons_succ])
      refine wpAnyH_take (i := 9) (oi := ⟨_, _, _, _, _, _⟩) (v := ?_) rfl (by kernel_rfl) (by kernel_rfl) (by kernel_rfl) (fun _ _ _ h => h) (Or.inl ⟨by rfl, ?_⟩) (by assumption) ?_
      rotate_left
      · intro w hSw
        (try dsimp only at hSw)
        go_simp
        (try with_reducible rfl)
      (try simp only [Act.put, List.setIfInBounds_toArray, List.set_cons_zero, List.set_cons_succ])
      refine wpAnyH_take (i := 10) (oi := ⟨_, _, _, _, _, _⟩) (v := ?_) rfl (by kernel_rfl) (by kernel_rfl) (by kernel_rfl) (fun _ _ _ h => h) (Or.inl ⟨by rfl, ?_⟩) (by assumption) ?_
      rotate_left
      · intro w hSw
        (try dsimp only at hSw)
        go_simp
        (try with_reducible rfl)
      (try simp only [Act.put, List.setIfInBounds_toArray, List.set_cons_zero, List.set_cons_succ])
      refine wpAnyH_ready (rs := [4]) (by kernel_rfl) (by simp) ?_
      refine AllReadyH.cons (o := ⟨_, _, _, _, _, _⟩) rfl (fun K hK => ?_) AllReadyH.nil
      go_simp
      skip
      refine hK.out _ _ ?_ (fun hHeld => ?_)
      · (try dsimp only)
        first | done | trivial
      clear hK K
      (try simp only [Act.put, List.setIfInBounds_toArray, List.set_cons_zero, List.set_cons_succ])
      refine wpAnyH_take (i := 11) (oi := ⟨_, _, _, _, _, _⟩) (v := ?_) rfl (by kernel_rfl) (by kernel_rfl) (by kernel_rfl) (fun _ _ _ h => h) (Or.inl ⟨by rfl, ?_⟩) (by assumption) ?_
      rotate_left
      · intro w hSw
        (try dsimp only at hSw)
        go_simp
        (try with_reducible rfl)
      (try simp only [Act.put, List.setIfInBounds_toArray, List.set_cons_zero, List.set_cons_succ])
      refine wpAnyH_take (i := 12) (oi := ⟨_, _, _, _, _, _⟩) (v := ?_) rfl (by kernel_rfl) (by kernel_rfl) (by kernel_rfl) (fun _ _ _ h => h) (Or.inl ⟨by rfl, ?_⟩) (by assumption) ?_
      rotate_left
      · intro w hSw
        (try dsimp only at hSw)
        go_simp
        (try with_reducible rfl)
      (try simp only [Act.put, List.setIfInBounds_toArray, List.set_cons_zero, List.set_cons_succ])
      refine wpAnyH_take (i := 13) (oi := ⟨_, _, _, _, _, _⟩) (v := ?_) rfl (by kernel_rfl) (by kernel_rfl) (by kernel_rfl) (fun _ _ _ h => h) (Or.inl ⟨by rfl, ?_⟩) (by assumption) ?_
      rotate_left
      · intro w hSw
        (try dsimp only at hSw)
        go_simp
        (try with_reducible rfl)
      (try simp only [Act.put, List.setIfInBounds_toArray, List.set_cons_zero, List.set_cons_succ])
      refine wpAnyH_ready (rs := [14]) (by kernel_rfl) (by simp) ?_
      refine AllReadyH.cons (o := ⟨_, _, _, _, _, _⟩) rfl (fun K hK => ?_) AllReadyH.nil
      go_simp
      skip
      refine hK.out _ _ ?_ (fun hHeld => ?_)
      · (try dsimp only)
        first | done | trivial
      clear hK K
      (try simp only [Act.put, List.setIfInBounds_toArray, List.set_cons_zero, List.set_cons_succ])
      refine wpAnyH_done (by kernel_rfl) ?_ _
      clear hHeld
      obtain ⟨V3, hV3⟩ : ∃ V3, V3 = (V1.setCell ⟨tb, 2, none⟩ (.slice (some ⟨gp, 0, none⟩) n c')).drew := ⟨_, rfl⟩
      rw [← hV3]
      have hg3 : V1.grownBy V3 (some tb) := by rw [hV3]; have h9 := grown_set V1 tb 2 (.slice (some ⟨gp, 0, none⟩) n c'); exact ⟨h9.os, h9.tape, h9.output, h9.size, h9.block⟩
      have hst3 : V3.heap[tb]? = some (.cells #[.slice (some ⟨lb, 0, none⟩) N N, .slice (some ⟨vb, 0, none⟩) N N, .slice (some ⟨gp, 0, none⟩) n c', .int .i64 ((l0 : Int) : Int), .bool false, .bool fi, .int .i64 (st.1 : Int), .slice F' nf' cf'] 51 (0, 0)) := by
        have h9 := heap_set (W := V1) (j := 2) (.slice (some ⟨gp, 0, none⟩) n c') HST1.out
        rw [hV3]; exact h9
      have z3 : V3.cell? ⟨tb, 3, none⟩ = some (.int .i64 (l0 : Int)) := by rw [cell_of_row _ _ _ _ _ _ hst3]; rfl
      have z3f : V3.frozen? ⟨tb, 3, none⟩ = false := frozen_of_row _ _ _ _ _ hst3
      have hs5 := grown_set V3 tb 3 (.int .i64 (l1 : Int))
      have hst5 : (V3.setCell ⟨tb, 3, none⟩ (.int .i64 (l1 : Int))).heap[tb]? = some (.cells #[.slice (some ⟨lb, 0, none⟩) N N, .slice (some ⟨vb, 0, none⟩) N N, .slice (some ⟨gp, 0, none⟩) n c', .int .i64 ((l1 : Int) : Int), .bool false, .bool fi, .int .i64 (st.1 : Int), .slice F' nf' cf'] 51 (0, 0)) := by rw [heap_set _ hst3]; rfl
      have hg5 : V1.grownBy (V3.setCell ⟨tb, 3, none⟩ (.int .i64 (l1 : Int))) (some tb) := hg3.trans hs5
      have hv5 := (hg5.block vb (lt_of_at9 HVIS1.out) (by simp; omega)).trans HVIS1.out
      have hLV : LB ≤ V1.heap.size := Nat.le_trans hlt.2.2.2.2.2.2 HG1.out.size
      have hkV : Kp LB tb vb V (V3.setCell ⟨tb, 3, none⟩ (.int .i64 (l1 : Int))) := (Kp.grown HG1.out hlt.2.2.2.2.2.2 (fun q e => .inr (.inr (by injection e with e; exact e.symm)))).trans (Kp.grown hg5 hLV (fun q e => .inr (.inl (by injection e with e; exact e.symm))))
      have hkW : Kp LB tb vb w (V3.setCell ⟨tb, 3, none⟩ (.int .i64 (l1 : Int))) := HK1.out.trans (Kp.grown hg5 hLV (fun q e => .inr (.inl (by injection e with e; exact e.symm))))
      have HFS := Lib.hid (HSR.out.turned hkV hst5 hv5)
      have hcut := HO1.out.cut (M := n) (by omega)
      rw [show (path ++ [(x : Int)]).take n = path from by have h9 := HO1.out.len; rw [List.length_append] at h9; simp at h9; rw [List.take_left' (by omega)]] at hcut
      have HFO := Lib.hid (hcut.apart hg5 (fun q hq e => by
        injection e with e
        have hq' : gp = q := by simpa [rowOf] using hq
        omega))
      have HFF := Lib.hid (HF1.out.apart hg5 (fun q hq e => by have := (HRF.out q hq).1; injection e with e; omega))
      have HFK := Lib.hid hkW
      clear hV3 hg3 hst3 hs5 hst5 hg5 hv5 hkV hkW hcut zc zf
      go_wp2_with fail
      go_end0
      exact ⟨_, c', F', nf', cf', ⟨_, rfl⟩, by rw [← HSTE.out]; exact HFS.out, HFO.out, by rw [← HSTE.out]; exact HFF.out, HAP.out, HFK.out⟩)
    have y3 : S5.cell? ⟨tb, 3, none⟩ = some (.int .i64 (l0 : Int)) := by rw [cell_of_row _ _ _ _ _ _ HSR5.out.st]; rfl
    have hz : ((l0 : Int) == 0) = false := by have := HL0.out; simp; omega
    have HE := Lib.hid (show endOf (path ++ [(x : Int)]) = (x : Int) from endOf_snoc _ _)
    have HLN := Lib.hid (show cells.length = (path ++ [(x : Int)]).length + l0 from by rw [List.length_append, List.length_singleton, HL0.out]; have := HLEN.out; omega)
    have HCAN := Lib.hid (can_any S5 LB tb lb vb N adj cells (path ++ [(x : Int)]) A2 (n + 1) c2 l0 false fi cnt F nf cf x HSR5.out (by simp) HWK.out HIN.out HE.out HLN.out)
    clear hKt haddk
    go_wp2_with fail
    refine HCAN.out.mono ?_
    rintro e wv ⟨r, rfl, hr, hb⟩
    have HSRv := Lib.hid (HSR5.out.keep hb); have HOv := Lib.hid (HO5.out.keep hb); have HFv := Lib.hid (HF5.out.keep hb)
    have HKv := Lib.hid (HK5.out.trans (Kp.below hb HSR5.out.lt.2.2.2.2.2.2))
    clear hb y3 HCAN
    cases r with
    | false =>
      have HS0 := Lib.hid (show st = (cnt, found) from by rw [HSTE.out, ← HL0.out, hr rfl]; rfl)
      clear hr
      have HSR9 := Lib.hid (show SrAt wv LB tb lb vb N adj cells (path ++ [(x : Int)]) A2 (n + 1) c2 l0 false fi st.1 F nf cf from by rw [HS0.out]; exact HSRv.out)
      have HF9 := Lib.hid (show OwnI 3 wv LB F nf cf st.2 from by rw [HS0.out]; exact HFv.out)
      go_wp2_with fail
      exact HT.out _ _ A2 c2 F nf cf rfl HSR9.out HOv.out HF9.out HAP5.out HKv.out
    | true =>
      clear hr
      obtain ⟨A3, n3, c3, hcell, hrow, hrowb⟩ := HSRv.out.lps (x : Int) (HIN.out _ (by simp))
      rw [Int.toNat_natCast] at hcell
      have y0 : wv.cell? ⟨tb, 0, none⟩ = some (.slice (some ⟨lb, 0, none⟩) N N) := by rw [cell_of_row _ _ _ _ _ _ HSRv.out.st]; rfl
      have ROW := Lib.hid hrow; have ROWB := Lib.hid hrowb; have ROWL := Lib.hid hrow.1
      have n39 := hrow.2.1
      clear hrow hrowb
      go_wp2_with fail
      go_loopw [108] (fun s108 wr => ∃ (j : Nat) (A' : Option Addr) (c' : Nat) (F' : Option Addr) (nf' cf' : Nat) (stj : Nat × List Int), j ≤ n3 ∧ s108 = .int .i64 j ∧ stj = (goneW adj k (path ++ [(x : Int)]) ((adj x).take j)).foldl (scanC fi) (cnt, found) ∧ SrAt wr LB tb lb vb N adj cells (path ++ [(x : Int)]) A' (n + 1) c' l0 false fi stj.1 F' nf' cf' ∧ OwnI 3 wr LB A' (n + 1) c' (path ++ [(x : Int)]) ∧ OwnI 3 wr LB F' nf' cf' stj.2 ∧ Apart A' F' ∧ Kp LB tb vb wv wr) (fun s108 _ => n3 - (intOf s108).toNat)
      case atStart => exact ⟨0, A2, c2, F, nf, cf, (cnt, found), Nat.zero_le _, rfl, by rw [List.take_zero]; rfl, HSRv.out, HOv.out, HFv.out, HAP5.out, Kp.refl _ _ _ _⟩
      case round =>
        obtain ⟨j, A', c', F', nf', cf', stj, hj, rfl, hstj, hsr, hown, hfo, hap, hkv⟩ := hrel
        have hrow := hkv.rd ROW.out ROWB.out
        have HSTJ := Lib.hid hstj
        have HSRj := Lib.hid hsr; have HOj := Lib.hid hown; have HFj := Lib.hid hfo; have HAj := Lib.hid hap; have HKj := Lib.hid hkv
        clear hstj hsr hown hfo hap hkv
        by_cases hjl : j < n3
        · obtain ⟨b2, o2, y, rfl, hb2, hy, yc⟩ := hrow.at_ hjl
          have hyc := HSRj.out.ranges.2.2.2.1 _ _ (List.mem_of_getElem? hy)
          have hyr := HSRj.out.ranges.1 _ hyc
          obtain ⟨y2, rfl⟩ : ∃ y2 : Nat, y = (y2 : Int) := ⟨y.toNat, by omega⟩
          have hy2 : y2 < N := by omega
          have y20 : (0 : Int) ≤ (y2 : Int) := by omega
          have y2N : (y2 : Int) < (N : Int) := by omega
          have j0 : (0 : Int) ≤ (j : Int) := by omega
          have jn : (j : Int) < (n3 : Int) := by omega
          have HY := Lib.hid hy; have HYC := Lib.hid hyc
          have q1 : wr.cell? ⟨tb, 1, none⟩ = some (.slice (some ⟨vb, 0, none⟩) N N) := by rw [cell_of_row _ _ _ _ _ _ HSRj.out.st]; rfl
          obtain ⟨fb, hfb⟩ : ∃ fb, fb = fi := ⟨_, rfl⟩
          obtain ⟨cj, hcj⟩ : ∃ cj : Int, cj = (stj.1 : Int) := ⟨_, rfl⟩
          have q5 : wr.cell? ⟨tb, 5, none⟩ = some (.bool fb) := by rw [cell_of_row _ _ _ _ _ _ HSRj.out.st, hfb]; rfl
          have q6 : wr.cell? ⟨tb, 6, none⟩ = some (.int .i64 cj) := by rw [cell_of_row _ _ _ _ _ _ HSRj.out.st, hcj]; rfl
          have HFB := Lib.hid hfb; have HCJ := Lib.hid hcj
          clear hfb hcj
          have qv : wr.cell? ⟨vb, y2, none⟩ = some (.bool ((path ++ [(x : Int)]).contains (y2 : Int))) := by
            rw [cell_of_row _ _ _ _ _ _ HSRj.out.vis, List.getElem?_toArray, List.getElem?_map, boolRow_at (f := fun i => (path ++ [(x : Int)]).contains (i : Int)) hy2]; rfl
          clear hy hyc hyr hrow
          cases hcb : (path ++ [(x : Int)]).contains (y2 : Int) with
          | true =>
            rw [hcb] at qv
            have HNX2 := Lib.hid (goneW_no (adj := adj) (k := k) HY.out hcb)
            clear hcb
            go_wp2_with fail
            go_roundw
            case rel => exact ⟨j + 1, A', c', F', nf', cf', stj, by omega, by go_num, by rw [HNX2.out]; exact HSTJ.out, HSRj.out, HOj.out, HFj.out, HAj.out, HKj.out⟩
            case measure => simp [intOf]; omega
          | false =>
            rw [hcb] at qv
            have HYS := Lib.hid (goneW_yes (adj := adj) (k := k) HY.out hcb)
            by_cases hstop : fi = true ∧ 0 < stj.1
            · have hp0 : (0 : Int) < cj := by rw [HCJ.out]; omega
              have hfbt : fb = true := by rw [HFB.out]; exact hstop.1
              have HSTP := Lib.hid (show stj = (goneW adj k (path ++ [(x : Int)]) ((adj x).take (j + 1))).foldl (scanC fi) (cnt, found) from by
                rw [HYS.out, List.foldl_append, ← HSTJ.out, hstop.1, scan_stop hstop.2])
              rw [hfbt] at q5
              clear hcb hstop hfbt
              go_wp2_with fail
              go_roundw
              case rel => exact ⟨j + 1, A', c', F', nf', cf', stj, by omega, by go_num, HSTP.out, HSRj.out, HOj.out, HFj.out, HAj.out, HKj.out⟩
              case measure => simp [intOf]; omega
            · have HFE := Lib.hid (show stj.1 + fac k ≤ 4000000000000000000 from by
                have h1 := goneW_few HSRj.out.ranges.2.2.2.1 hnd HWK.out.1 HIN.out (by rw [← HL0.out]; exact HLN.out) HY.out hcb
                have h2 := scan_le fi (goneW adj k (path ++ [(x : Int)]) ((adj x).take j)) (cnt, found)
                rw [← HSTJ.out] at h2
                have h3 : stj.1 ≤ cnt + (goneW adj k (path ++ [(x : Int)]) ((adj x).take j)).length := h2
                have h4 : cnt + fac (k + 1) ≤ 4000000000000000000 := hcb4.out
                omega)
              have HFI2 := Lib.hid (show fi = true → stj.1 = 0 from fun h => by
                rcases Nat.eq_zero_or_pos stj.1 with h1 | h1
                · exact h1
                · exact absurd ⟨h, h1⟩ hstop)
              have hyn : (y2 : Int) ∉ path ++ [(x : Int)] := by simpa using hcb
              have hyadj := List.mem_of_getElem? HY.out
              have HWK2 := Lib.hid (walk_snoc (by simp) HWK.out (by rw [HE.out]; exact nextL_mem.2 ⟨hyadj, hyn⟩))
              have HIN2 := Lib.hid (show ∀ z ∈ path ++ [(x : Int)] ++ [(y2 : Int)], z ∈ cells from fun z hz => by
                rcases List.mem_append.1 hz with h | h
                · exact HIN.out z h
                · rw [List.mem_singleton.1 h]; exact HYC.out)
              have HGO := Lib.hid (ih wr (path ++ [(x : Int)]) stj.2 A' (n + 1) c' stj.1 F' nf' cf' y2 (by rw [← HL0.out]; exact HSRj.out) HOj.out HFj.out HAj.out HWK2.out HIN2.out (by rw [HLN.out, HL0.out]; omega) HFI2.out HFE.out (by omega))
              clear hcb hyn hyadj
              cases fb with
              | false =>
                clear hstop
                go_wp2_with fail
                refine HGO.out.mono ?_
                rintro e wz ⟨A5, c5, F5, nf5, cf5, ⟨v5, rfl⟩, sr5, o5, f5, a5, k5⟩
                have HSTN := Lib.hid (show ((allW adj k (path ++ [(x : Int)] ++ [(y2 : Int)])).foldl (scanC fi) (stj.1, stj.2)) = (goneW adj k (path ++ [(x : Int)]) ((adj x).take (j + 1))).foldl (scanC fi) (cnt, found) from by
                  rw [HYS.out, List.foldl_append, ← HSTJ.out])
                have HSR7 := Lib.hid (show SrAt wz LB tb lb vb N adj cells (path ++ [(x : Int)]) A5 (n + 1) c5 l0 false fi ((goneW adj k (path ++ [(x : Int)]) ((adj x).take (j + 1))).foldl (scanC fi) (cnt, found)).1 F5 nf5 cf5 from by rw [← HSTN.out, HL0.out]; exact sr5)
                have HF7 := Lib.hid (show OwnI 3 wz LB F5 nf5 cf5 ((goneW adj k (path ++ [(x : Int)]) ((adj x).take (j + 1))).foldl (scanC fi) (cnt, found)).2 from by rw [← HSTN.out]; exact f5)
                have HO7 := Lib.hid o5; have HA7 := Lib.hid a5; have HK7 := Lib.hid (HKj.out.trans k5)
                clear sr5 o5 f5 a5 k5
                go_wp2_with fail
                go_roundw
                case rel => exact ⟨j + 1, A5, c5, F5, nf5, cf5, _, by omega, by go_num, rfl, HSR7.out, HO7.out, HF7.out, HA7.out, HK7.out⟩
                case measure => simp [intOf]; omega
              | true =>
                have hs0 : ¬ (0 : Int) < cj := by
                  rw [HCJ.out]; intro h
                  exact hstop ⟨HFB.out.symm, by omega⟩
                clear hstop
                go_wp2_with fail
                refine HGO.out.mono ?_
                rintro e wz ⟨A5, c5, F5, nf5, cf5, ⟨v5, rfl⟩, sr5, o5, f5, a5, k5⟩
                have HSTN := Lib.hid (show ((allW adj k (path ++ [(x : Int)] ++ [(y2 : Int)])).foldl (scanC fi) (stj.1, stj.2)) = (goneW adj k (path ++ [(x : Int)]) ((adj x).take (j + 1))).foldl (scanC fi) (cnt, found) from by
                  rw [HYS.out, List.foldl_append, ← HSTJ.out])
                have HSR7 := Lib.hid (show SrAt wz LB tb lb vb N adj cells (path ++ [(x : Int)]) A5 (n + 1) c5 l0 false fi ((goneW adj k (path ++ [(x : Int)]) ((adj x).take (j + 1))).foldl (scanC fi) (cnt, found)).1 F5 nf5 cf5 from by rw [← HSTN.out, HL0.out]; exact sr5)
                have HF7 := Lib.hid (show OwnI 3 wz LB F5 nf5 cf5 ((goneW adj k (path ++ [(x : Int)]) ((adj x).take (j + 1))).foldl (scanC fi) (cnt, found)).2 from by rw [← HSTN.out]; exact f5)
                have HO7 := Lib.hid o5; have HA7 := Lib.hid a5; have HK7 := Lib.hid (HKj.out.trans k5)
                clear sr5 o5 f5 a5 k5
                go_wp2_with fail
                go_roundw
                case rel => exact ⟨j + 1, A5, c5, F5, nf5, cf5, _, by omega, by go_num, rfl, HSR7.out, HO7.out, HF7.out, HA7.out, HK7.out⟩
                case measure => simp [intOf]; omega
        · have hjn : ¬ (j : Int) < (n3 : Int) := by omega
          have HSTE2 := Lib.hid (show stj = st from by
            rw [HSTJ.out, HSTE.out, ← goneW_all, HE.out, List.take_of_length_le (by have := ROWL.out; omega)])
          have HSR9 := Lib.hid (show SrAt wr LB tb lb vb N adj cells (path ++ [(x : Int)]) A' (n + 1) c' l0 false fi st.1 F' nf' cf' from by rw [← HSTE2.out]; exact HSRj.out)
          have HF9 := Lib.hid (show OwnI 3 wr LB F' nf' cf' st.2 from by rw [← HSTE2.out]; exact HFj.out)
          have HK9 := Lib.hid (HKv.out.trans HKj.out)
          clear hrow
          go_wp2_with fail
          exact HT.out _ _ A' c' F' nf' cf' rfl HSR9.out HOj.out HF9.out HAj.out HK9.out
end Go.Proofs.YtnmmgalidkambaaGreatDoor

namespace Go.Proofs.YtnmmgalidkambaaGreatDoor
open Go.RowKit

theorem filter_yes {f : Int → Bool} {l : List Int} {k : Nat} {x : Int} (hx : l[k]? = some x) (h : f x = true) : (l.take (k + 1)).filter f = (l.take k).filter f ++ [x] := by
  rw [List.take_add_one, hx, List.filter_append]; simp [h]
theorem filter_no {f : Int → Bool} {l : List Int} {k : Nat} {x : Int} (hx : l[k]? = some x) (h : f x = false) : (l.take (k + 1)).filter f = (l.take k).filter f := by
  rw [List.take_add_one, hx, List.filter_append]; simp [h]
theorem filter_len_le {f : Int → Bool} {l : List Int} {k : Nat} : ((l.take k).filter f).length ≤ k := Nat.le_trans (List.length_filter_le _ _) (by rw [List.length_take]; omega)
theorem cellsL_len64 {W H : Int} {xs : List Int} (hN : 1 ≤ W * H ∧ W * H ≤ 64) : (cellsL W H xs).length ≤ 64 := by
  have := cellsTo_len (W := W) (H := H) (hs := xs) (W * H).toNat; unfold cellsL; omega
theorem leapsL_len64 {W H a b q : Int} {xs : List Int} (hN : 1 ≤ W * H ∧ W * H ≤ 64) : (leapsL W H xs a b q).length ≤ 64 := Nat.le_trans (List.length_filter_le _ _) (cellsL_len64 hN)

set_option maxRecDepth 100000 in
set_option maxHeartbeats 2000000 in
theorem boLeaps_any (W H : Int) (A : Option Addr) (n c : Nat) (xs : List Int) (a b : Int) (q : Int) (w : World) (ha : Rd w A n xs) (hg : goodB W H xs = true) (hq : 0 ≤ q ∧ q ≤ 64) :
    Calls Tryz.prog 52 #[brd W H A n c, lpr a b, .int .i64 q] w fun e w' => ∃ A' n' c', e = .returned (.slice A' n' c') ∧ OwnI 3 w' w.heap.size A' n' c' (leapsL W H xs a b q) ∧ Below w.heap.size w w' := by
  have HQ := Lib.hid hq
  clear hq
  obtain ⟨hW, hH, _, _⟩ := goodB_iff.1 hg
  have HW := Lib.hid hW; have HN := Lib.hid (cells_le hW hH)
  have HG := Lib.hid hg
  obtain ⟨i0, hi, hz0, hz1, hz2⟩ := info_parts infoI
  have HI := Lib.hid hi; have HZ0 := Lib.hid hz0; have HZ1 := Lib.hid hz1; have HZ2 := Lib.hid hz2
  clear hW hH hg hi hz0 hz1 hz2
  obtain ⟨W2, hW2⟩ : ∃ W2, W2 = (w.alloc (.cells #[.int .i64 W, .int .i64 H, .slice A n c] 30)).alloc (.cells #[.int .i64 a, .int .i64 b] 32) := ⟨_, rfl⟩
  have a0 : W2.cell? ⟨w.heap.size, 0, none⟩ = some (.int .i64 W) := by rw [hW2]; go_simp
  have a1 : W2.cell? ⟨w.heap.size, 1, none⟩ = some (.int .i64 H) := by rw [hW2]; go_simp
  have a2 : W2.cell? ⟨w.heap.size, 2, none⟩ = some (.slice A n c) := by rw [hW2]; go_simp
  have l0 : W2.cell? ⟨w.heap.size + 1, 0, none⟩ = some (.int .i64 a) := by rw [hW2]; go_simp
  have l1 : W2.cell? ⟨w.heap.size + 1, 1, none⟩ = some (.int .i64 b) := by rw [hW2]; go_simp
  have hsz : w.heap.size + 2 ≤ W2.heap.size := by rw [hW2]; simp
  have B := Lib.hid (show Below w.heap.size w W2 by rw [hW2]; exact below_new (below_new (Below.refl _ _) _) _)
  have R := Lib.hid (ha.keep B.out)
  have ga : w.heap.size < W2.heap.size := by omega
  have gl : w.heap.size + 1 < W2.heap.size := by omega
  go_enter Tryz.func52, Tryz.ntmps52
  go_wp2_with fail
  rw [← hW2]
  clear hW2
  refine (boCells_any W H A n c xs _ R.out HN.out).mono ?_
  rintro e ws ⟨A1, n1, c1, rfl, hst, hb⟩
  replace a0 := cell_keep a0 ga hb; replace a1 := cell_keep a1 ga hb; replace a2 := cell_keep a2 ga hb; replace l0 := cell_keep l0 gl hb; replace l1 := cell_keep l1 gl hb; replace ga := lt_keep ga hb; replace gl := lt_keep gl hb; replace R := Lib.hid (R.out.keep hb)
  have hB0 := B.out.size
  replace B := Lib.hid (below_next B.out hb)
  have hs1 := hb.size
  have ST := Lib.hid hst.rd
  have SL := Lib.hid hst.len
  have n8 : n1 ≤ 64 := by have := cellsTo_len (W := W) (H := H) (hs := xs) (W * H).toNat; have := hst.len; have := HN.out; unfold cellsL at *; omega
  have n9 := hst.rd.2.1
  clear hst hb
  go_wp2
  go_loopw [7, 13] (fun v i wr => ∃ (k n' c' : Nat) (A' : Option Addr), k ≤ n1 ∧ i = .int .i64 k ∧ v = .slice A' n' c' ∧ OwnI 3 wr ws.heap.size A' n' c' (((cellsL W H xs).take k).filter (leapB W a b q)) ∧ Below ws.heap.size ws wr) (fun _ i _ => n1 - (intOf i).toNat)
  case atStart => exact ⟨0, 0, 0, none, by omega, rfl, rfl, OwnI.none_ _ _ _, Below.refl _ _⟩
  case round =>
    obtain ⟨k, n', c', A', hk, rfl, rfl, hown, hbw⟩ := hrel
    have hn' : n' ≤ 64 := by have := hown.len; have := filter_len_le (f := leapB W a b q) (l := cellsL W H xs) (k := k); omega
    by_cases hlt : k < n1
    · obtain ⟨bb, oo, x, rfl, hg1, hx, x0⟩ := ST.out.at_ hlt
      have HX := Lib.hid hx
      have hin := cellsL_mem.1 (List.mem_of_getElem? hx)
      have HIN := Lib.hid hin
      have HXR := Lib.hid (range_of HN.out hin)
      replace x0 := cell_keep x0 hg1 hbw
      have b0 := cell_keep a0 ga hbw; have b1 := cell_keep a1 ga hbw; have b2 := cell_keep a2 ga hbw; have m0 := cell_keep l0 gl hbw; have m1 := cell_keep l1 gl hbw
      have gb := lt_keep ga hbw; have gm := lt_keep gl hbw
      have RR := Lib.hid (R.out.keep hbw)
      have HO := Lib.hid hown; have HB := Lib.hid hbw
      have hsw := hbw.size
      clear hx hin hown hbw
      cases hs : leapB W a b q x with
      | true =>
        have HS := Lib.hid hs
        clear hs
        go_wp2_with fail
        refine (boIs_any W H A n c a b q x _ HW.out HQ.out HXR.out).mono ?_
        rw [HS.out]
        rintro e wv ⟨rfl, hb⟩
        replace b0 := cell_keep b0 gb hb; replace b1 := cell_keep b1 gb hb; replace b2 := cell_keep b2 gb hb; replace m0 := cell_keep m0 gm hb; replace m1 := cell_keep m1 gm hb; replace gb := lt_keep gb hb; replace gm := lt_keep gm hb; replace RR := Lib.hid (RR.out.keep hb); replace HO := Lib.hid (HO.out.keep hb); replace HB := Lib.hid (HB.out.trans (hb.mono (by omega))); replace hsw := Nat.le_trans hsw hb.size; clear hb
        go_wp2_with (at_builtin; refine wpList_app1 rfl (.tmp 22) (.tmp 24) 22 3 rfl i0 Tryz.underlying22 HI.out HZ0.out HZ1.out HZ2.out ws.heap.size A' n' c' (((cellsL W H xs).take k).filter (leapB W a b q)) x rfl HO.out rfl (by omega) hsw ?_; intro A2 c2 w2 hown2 hb2)
        have HO2 := Lib.hid hown2; have HB2 := Lib.hid (HB.out.trans hb2)
        clear hown2 hb2
        go_wp2
        go_roundw
        case rel => exact ⟨k + 1, n' + 1, c2, A2, by omega, by go_num, rfl, by rw [filter_yes HX.out HS.out]; exact HO2.out, HB2.out⟩
        case measure => simp [intOf]; omega
      | false =>
        have HS := Lib.hid hs
        clear hs
        go_wp2_with fail
        refine (boIs_any W H A n c a b q x _ HW.out HQ.out HXR.out).mono ?_
        rw [HS.out]
        rintro e wv ⟨rfl, hb⟩
        replace b0 := cell_keep b0 gb hb; replace b1 := cell_keep b1 gb hb; replace b2 := cell_keep b2 gb hb; replace m0 := cell_keep m0 gm hb; replace m1 := cell_keep m1 gm hb; replace gb := lt_keep gb hb; replace gm := lt_keep gm hb; replace RR := Lib.hid (RR.out.keep hb); replace HO := Lib.hid (HO.out.keep hb); replace HB := Lib.hid (HB.out.trans (hb.mono (by omega))); replace hsw := Nat.le_trans hsw hb.size; clear hb
        go_wp2
        go_roundw
        case rel => exact ⟨k + 1, n', c', A', by omega, by go_num, rfl, by rw [filter_no HX.out HS.out]; exact HO.out, HB.out⟩
        case measure => simp [intOf]; omega
    · have e2 : (cellsL W H xs).take k = cellsL W H xs := List.take_of_length_le (by have := SL.out; omega)
      rw [e2] at hown
      have HO := Lib.hid hown; have HB := Lib.hid hbw
      clear hown hbw e2
      go_wp2
      go_ret
      exact ⟨A', n', c', rfl, HO.out.lower (by omega), B.out.trans (HB.out.mono (by omega))⟩

def degL (W H : Int) (xs : List Int) (a b : Int) : List Int := (cellsL W H xs).map fun q => ((leapsL W H xs a b q).length : Int)

end Go.Proofs.YtnmmgalidkambaaGreatDoor

namespace Go.Proofs.YtnmmgalidkambaaGreatDoor
open Go.RowKit

theorem infoSl : (Tryz.prog.info? 22).map (fun i => (i.zero, i.size, i.bytes)) = some (some (.slice none 0 0), 1, 24) := by kernel_rfl
theorem step_makeG {P : Program} {w : World} {ops : Array Oper} {o : Oper} {a : Act} {K : Act → World → Prop} {Q : Exit → Act → World → Prop} {E0 : Prop} (hgd : o.guard = none) (l c : Operand) (t e : TypeId)
    (hop : o.op = Op.makeSlice t l c) (i0 : TypeInfo) (z : Value) (hT : P.underlying t = some (.slice e)) (hi : P.info? e = some i0) (hz0 : i0.zero = some z) (hz1 : i0.size = 1) (hzc : z.cells = #[z])
    (n : Nat) (hl : a.eval l = .int .i64 (n : Int)) (hc : a.eval c = .int .i64 (n : Int)) (hby : i0.bytes * n ≤ 281474976710656) (hn : n ≤ 1000) (hn1 : 1 ≤ n)
    (h : ∀ w', w'.heap[w.heap.size]? = some (.cells (List.replicate n z).toArray e (0, 0)) → Below w.heap.size w w' → K (a.put o.dst (.slice (some ⟨w.heap.size, 0, none⟩) n n)) w') :
    if Region.wanted o (yielded ops a.tmps) = true then Oper.wp P o a w K Q else E0 := by
  have hw : Region.wanted o (yielded ops a.tmps) = true := by simp [Region.wanted, hgd]
  rw [if_pos hw]
  obtain ⟨w', hrun, r1, r2⟩ := run_make_full (P := P) w w.heap.size t e i0 z 1 hT hi hz0 hz1 .i64 .i64 n hby (by unfold maxLen; omega) (Nat.le_refl _)
  unfold Oper.wp
  simp [execOp, hop, hl, hc, hrun, Result.andThen]
  refine h _ ?_ (below_of_grown r2 (Nat.le_refl _) (fun g h => by cases h))
  rw [show n * 1 = n from by omega] at r1
  have e0 : (madeCells z.cells n).toList = List.replicate n z := by
    rw [hzc]
    exact toList_madeCells_one z n
  rw [e0] at r1
  rcases r1.2 with ⟨_, h0⟩ | ⟨g, cap, cur, hv, hb, hg, hnc, hm, hcs, ht⟩
  · omega
  · injection hv with h1 h2 h3
    injection h1 with h1
    injection h1 with h1
    rw [h1, hg]
    have hcur : cur.toList = List.replicate n z := by
      rw [← ht, List.take_of_length_le (by rw [Array.length_toList]; omega)]
    rw [← hcur]

/-- The leaps from some cells lie in their rows. -/
def RowsAt (wr : World) (lb tb vb N : Nat) (adj : Int → List Int) (cs : List Int) : Prop :=
  (∃ cur : Array Value, wr.heap[lb]? = some (.cells cur 22 (0, 0)) ∧ cur.size = N) ∧ ∀ x ∈ cs, ∃ A' n' c', wr.cell? ⟨lb, x.toNat, none⟩ = some (.slice A' n' c') ∧ Rd wr A' n' (adj x) ∧ ∀ a, A' = some a → a.block < wr.heap.size ∧ a.block ≠ tb ∧ a.block ≠ vb ∧ a.block ≠ lb
theorem RowsAt.keep {wr w' : World} {lb tb vb N : Nat} {adj : Int → List Int} {cs : List Int} (h : RowsAt wr lb tb vb N adj cs) (hb : Below wr.heap.size wr w') : RowsAt w' lb tb vb N adj cs := by
  obtain ⟨⟨cur, h1, h2⟩, h3⟩ := h
  refine ⟨⟨cur, (hb.block lb (lt_of_at9 h1)).trans h1, h2⟩, fun x hx => ?_⟩
  obtain ⟨A', n', c', h4, h5, h6⟩ := h3 x hx
  exact ⟨A', n', c', cell_keep h4 (lt_of_at9 h1) hb, h5.keep hb, fun a ha => ⟨Nat.lt_of_lt_of_le (h6 a ha).1 hb.size, (h6 a ha).2⟩⟩
theorem RowsAt.push {wr : World} {lb tb vb N y : Nat} {adj : Int → List Int} {cs : List Int} {A : Option Addr} {n c : Nat} (h : RowsAt wr lb tb vb N adj cs) (hy : y < N) (hr : Rd wr A n (adj (y : Int))) (hA : ∀ a, A = some a → a.block < wr.heap.size ∧ a.block ≠ tb ∧ a.block ≠ vb ∧ a.block ≠ lb)
    (hcs : ∀ x ∈ cs, 0 ≤ x ∧ x ≠ (y : Int)) : RowsAt (wr.setCell ⟨lb, y, none⟩ (.slice A n c)) lb tb vb N adj (cs ++ [(y : Int)]) := by
  obtain ⟨⟨cur, h1, h2⟩, h3⟩ := h
  have hs := heap_set (j := y) (.slice A n c) h1
  have hg := grown_set wr lb y (.slice A n c)
  refine ⟨⟨_, hs, by simpa using h2⟩, fun x hx => ?_⟩
  rcases List.mem_append.1 hx with hx | hx
  · obtain ⟨A', n', c', h4, h5, h6⟩ := h3 x hx
    have hne := hcs x hx
    refine ⟨A', n', c', ?_, h5.other hg (fun a ha => by have := (h6 a ha).2.2.2; simpa using this), fun a ha => ⟨Nat.lt_of_lt_of_le (h6 a ha).1 hg.size, (h6 a ha).2⟩⟩
    rw [cell_of_row _ _ _ _ _ _ hs, Array.getElem?_setIfInBounds_ne (by omega)]
    rw [cell_of_row _ _ _ _ _ _ h1] at h4; exact h4
  · rw [List.mem_singleton.1 hx]
    refine ⟨A, n, c, ?_, hr.other hg (fun a ha => by have := (hA a ha).2.2.2; simpa using this), fun a ha => ⟨Nat.lt_of_lt_of_le (hA a ha).1 hg.size, (hA a ha).2⟩⟩
    rw [cell_of_row _ _ _ _ _ _ hs, Int.toNat_natCast]
    simp [h2, hy]

set_option maxRecDepth 100000 in
set_option maxHeartbeats 4000000 in
theorem toNew_any (W H : Int) (A : Option Addr) (n c : Nat) (xs : List Int) (a b : Int) (x : Nat) (fi : Bool) (m : Nat) (w : World) (ha : Rd w A n xs) (hg : goodB W H xs = true) (hx : hasB W H xs (x : Int) = true) (hm : (cellsL W H xs).length = m + 1) (hm20 : m < 20) :
    Calls Tryz.prog 35 #[brd W H A n c, lpr a b, .int .i64 (x : Int), .bool false, .bool fi] w fun e w' => ∃ (tb lb vb N LB : Nat) (A' : Option Addr) (c' : Nat) (F : Option Addr) (nf cf : Nat), e = .returned (.pointer (some ⟨tb, 0, none⟩)) ∧
      SrAt w' LB tb lb vb N (leapsL W H xs a b) (cellsL W H xs) [] A' 0 c' (m + 1) false fi ((allW (leapsL W H xs a b) m [(x : Int)]).foldl (scanC fi) (0, [])).1 F nf cf ∧ OwnI 3 w' LB F nf cf ((allW (leapsL W H xs a b) m [(x : Int)]).foldl (scanC fi) (0, [])).2 ∧ w.heap.size ≤ LB ∧ Below w.heap.size w w' := by
  have HG := Lib.hid hg
  obtain ⟨hW, hH, _, _⟩ := goodB_iff.1 hg
  have hNN := cells_le hW hH
  have HNN := Lib.hid hNN
  obtain ⟨N, hWH⟩ : ∃ N : Nat, W * H = (N : Int) := ⟨(W * H).toNat, by omega⟩
  have hN1 : 1 ≤ N := by omega
  have hN64 : N ≤ 64 := by omega
  have hwN : IntKind.i64.wrap (N : Int) = (N : Int) := by rw [IntKind.wrap_i64]; omega
  have hwM : IntKind.i64.wrap (W * H) = (N : Int) := by rw [hWH]; exact hwN
  obtain ⟨i1, hi, hz0, hz1, hz2⟩ := info_parts infoBl
  have HI1 := Lib.hid hi; have HZ10 := Lib.hid hz0; have HZ11 := Lib.hid hz1; have HZ12 := Lib.hid hz2
  clear hi hz0 hz1 hz2
  obtain ⟨iS, hi, hz0, hz1, hz2⟩ := info_parts infoSl
  have HS := Lib.hid hi; have HS0 := Lib.hid hz0; have HS1 := Lib.hid hz1; have HS2 := Lib.hid hz2
  clear hi hz0 hz1 hz2
  obtain ⟨W2, hW2⟩ : ∃ W2, W2 = (w.alloc (.cells #[.int .i64 W, .int .i64 H, .slice A n c] 30)).alloc (.cells #[.int .i64 a, .int .i64 b] 32) := ⟨_, rfl⟩
  have a0 : W2.cell? ⟨w.heap.size, 0, none⟩ = some (.int .i64 W) := by rw [hW2]; go_simp
  have a1 : W2.cell? ⟨w.heap.size, 1, none⟩ = some (.int .i64 H) := by rw [hW2]; go_simp
  have al : w.heap.size < W2.heap.size := by rw [hW2]; simp; omega
  have hs2 : W2.heap.size = w.heap.size + 2 := by rw [hW2]; simp
  have B0 := Lib.hid (show Below w.heap.size w W2 by rw [hW2]; exact below_new (below_new (Below.refl _ _) _) _)
  have B := Lib.hid (Below.refl W2.heap.size W2)
  have HBD := Lib.hid (show W2.heap[w.heap.size]? = some (.cells #[.int .i64 W, .int .i64 H, .slice A n c] 30 (0, 0)) by rw [hW2, Below.heap_alloc _ _ _ (by simp)]; exact World.alloc_heap_new _ _)
  have HLD := Lib.hid (show W2.heap[w.heap.size + 1]? = some (.cells #[.int .i64 a, .int .i64 b] 32 (0, 0)) by
    have h := World.alloc_heap_new (w.alloc (.cells #[.int .i64 W, .int .i64 H, .slice A n c] 30)) (.cells #[.int .i64 a, .int .i64 b] 32)
    rw [World.size_alloc] at h
    rw [hW2]; exact h)
  have R := Lib.hid (ha.keep B0.out)
  clear ha hg hW hH hNN
  go_enter Tryz.func35, Tryz.ntmps35
  go_upto_region 1 with fail
  rw [← hW2]
  clear hW2
  refine wp_region_held_drew (S := fun w' => w'.cell? ⟨w.heap.size, 0, none⟩ = some (.int .i64 W) ∧ w'.cell? ⟨w.heap.size, 1, none⟩ = some (.int .i64 H)) (by kernel_rfl) ?_ (fun hHeld => ?_)
  · (try dsimp only)
    exact ⟨a0, a1⟩
  refine wpAnyH_take (i := 0) (oi := ⟨_, _, _, _, _, _⟩) (v := ?_) rfl (by kernel_rfl) (by kernel_rfl) (by kernel_rfl) (fun _ _ _ h => h) (Or.inl ⟨by rfl, ?_⟩) (by assumption) ?_
  rotate_left
  · intro w hSw
    (try dsimp only at hSw)
    obtain ⟨hSa, hSb⟩ := hSw
    go_simp
    (try with_reducible rfl)
  (try simp only [Act.put, List.setIfInBounds_toArray, List.set_cons_zero, List.set_cons_succ])
  refine wpAnyH_take (i := 1) (oi := ⟨_, _, _, _, _, _⟩) (v := ?_) rfl (by kernel_rfl) (by kernel_rfl) (by kernel_rfl) (fun _ _ _ h => h) (Or.inl ⟨by rfl, ?_⟩) (by assumption) ?_
  rotate_left
  · intro w hSw
    (try dsimp only at hSw)
    obtain ⟨hSa, hSb⟩ := hSw
    go_simp
    (try with_reducible rfl)
  (try simp only [Act.put, List.setIfInBounds_toArray, List.set_cons_zero, List.set_cons_succ])
  refine wpAnyH_take (i := 2) (oi := ⟨_, _, _, _, _, _⟩) (v := ?_) rfl (by kernel_rfl) (by kernel_rfl) (by kernel_rfl) (fun _ _ _ h => h) (Or.inl ⟨by rfl, ?_⟩) (by assumption) ?_
  rotate_left
  · intro w hSw
    (try dsimp only at hSw)
    obtain ⟨hSa, hSb⟩ := hSw
    go_simp
    (try with_reducible rfl)
  (try simp only [Act.put, List.setIfInBounds_toArray, List.set_cons_zero, List.set_cons_succ])
  refine wpAnyH_take (i := 3) (oi := ⟨_, _, _, _, _, _⟩) (v := ?_) rfl (by kernel_rfl) (by kernel_rfl) (by kernel_rfl) (fun _ _ _ h => h) (Or.inl ⟨by rfl, ?_⟩) (by assumption) ?_
  rotate_left
  · intro w hSw
    (try dsimp only at hSw)
    obtain ⟨hSa, hSb⟩ := hSw
    go_simp
    (try with_reducible rfl)
  (try simp only [Act.put, List.setIfInBounds_toArray, List.set_cons_zero, List.set_cons_succ])
  refine wpAnyH_take (i := 4) (oi := ⟨_, _, _, _, _, _⟩) (v := ?_) rfl (by kernel_rfl) (by kernel_rfl) (by kernel_rfl) (fun _ _ _ h => h) (Or.inl ⟨by rfl, ?_⟩) (by assumption) ?_
  rotate_left
  · intro w hSw
    (try dsimp only at hSw)
    obtain ⟨hSa, hSb⟩ := hSw
    go_simp
    (try with_reducible rfl)
  (try simp only [Act.put, List.setIfInBounds_toArray, List.set_cons_zero, List.set_cons_succ])
  refine wpAnyH_take (i := 6) (oi := ⟨_, _, _, _, _, _⟩) (v := ?_) rfl (by kernel_rfl) (by kernel_rfl) (by kernel_rfl) (fun _ _ _ h => h) (Or.inl ⟨by rfl, ?_⟩) (by assumption) ?_
  rotate_left
  · intro w hSw
    (try dsimp only at hSw)
    obtain ⟨hSa, hSb⟩ := hSw
    go_simp
    (try with_reducible rfl)
  (try simp only [Act.put, List.setIfInBounds_toArray, List.set_cons_zero, List.set_cons_succ])
  refine wpAnyH_take (i := 7) (oi := ⟨_, _, _, _, _, _⟩) (v := ?_) rfl (by kernel_rfl) (by kernel_rfl) (by kernel_rfl) (fun _ _ _ h => h) (Or.inl ⟨by rfl, ?_⟩) (by assumption) ?_
  rotate_left
  · intro w hSw
    (try dsimp only at hSw)
    obtain ⟨hSa, hSb⟩ := hSw
    go_simp
    (try with_reducible rfl)
  (try simp only [Act.put, List.setIfInBounds_toArray, List.set_cons_zero, List.set_cons_succ])
  refine wpAnyH_take (i := 8) (oi := ⟨_, _, _, _, _, _⟩) (v := ?_) rfl (by kernel_rfl) (by kernel_rfl) (by kernel_rfl) (fun _ _ _ h => h) (Or.inl ⟨by rfl, ?_⟩) (by assumption) ?_
  rotate_left
  · intro w hSw
    (try dsimp only at hSw)
    obtain ⟨hSa, hSb⟩ := hSw
    go_simp
    (try with_reducible rfl)
  (try simp only [Act.put, List.setIfInBounds_toArray, List.set_cons_zero, List.set_cons_succ])
  refine wpAnyH_take (i := 9) (oi := ⟨_, _, _, _, _, _⟩) (v := ?_) rfl (by kernel_rfl) (by kernel_rfl) (by kernel_rfl) (fun _ _ _ h => h) (Or.inl ⟨by rfl, ?_⟩) (by assumption) ?_
  rotate_left
  · intro w hSw
    (try dsimp only at hSw)
    obtain ⟨hSa, hSb⟩ := hSw
    go_simp
    (try with_reducible rfl)
  (try simp only [Act.put, List.setIfInBounds_toArray, List.set_cons_zero, List.set_cons_succ])
  refine wpAnyH_take (i := 10) (oi := ⟨_, _, _, _, _, _⟩) (v := ?_) rfl (by kernel_rfl) (by kernel_rfl) (by kernel_rfl) (fun _ _ _ h => h) (Or.inl ⟨by rfl, ?_⟩) (by assumption) ?_
  rotate_left
  · intro w hSw
    (try dsimp only at hSw)
    obtain ⟨hSa, hSb⟩ := hSw
    go_simp
    (try with_reducible rfl)
  (try simp only [Act.put, List.setIfInBounds_toArray, List.set_cons_zero, List.set_cons_succ])
  refine wpAnyH_take (i := 12) (oi := ⟨_, _, _, _, _, _⟩) (v := ?_) rfl (by kernel_rfl) (by kernel_rfl) (by kernel_rfl) (fun _ _ _ h => h) (Or.inl ⟨by rfl, ?_⟩) (by assumption) ?_
  rotate_left
  · intro w hSw
    (try dsimp only at hSw)
    obtain ⟨hSa, hSb⟩ := hSw
    go_simp
    (try with_reducible rfl)
  (try simp only [Act.put, List.setIfInBounds_toArray, List.set_cons_zero, List.set_cons_succ])
  refine wpAnyH_take (i := 13) (oi := ⟨_, _, _, _, _, _⟩) (v := ?_) rfl (by kernel_rfl) (by kernel_rfl) (by kernel_rfl) (fun _ _ _ h => h) (Or.inl ⟨by rfl, ?_⟩) (by assumption) ?_
  rotate_left
  · intro w hSw
    (try dsimp only at hSw)
    obtain ⟨hSa, hSb⟩ := hSw
    go_simp
    (try with_reducible rfl)
  (try simp only [Act.put, List.setIfInBounds_toArray, List.set_cons_zero, List.set_cons_succ])
  refine wpAnyH_ready (rs := [5, 11]) (by kernel_rfl) (by simp) ?_
  refine AllReadyH.cons (o := ⟨_, _, _, _, _, _⟩) rfl (fun K hK => ?_) ?_
  · skip
    (refine step_makeG rfl (.tmp 18) (.tmp 18) 48 22 rfl iS (.slice none 0 0) Tryz.underlying48 HS.out HS0.out HS1.out rfl N rfl rfl (by rw [HS2.out]; omega) (by omega) hN1 ?_; intro wL hL hb; (repeat (first | replace hb := below_undrew hb | replace hb := below_undrewN hb)); replace a0 := cell_keep a0 al hb; replace a1 := cell_keep a1 al hb; replace al := lt_keep al hb; have HL := Lib.hid hL; have hLs := lt_of_at9 hL; have HLlo := Lib.hid B.out.size; replace B := Lib.hid (below_next B.out hb); clear hL; clear hb)
    refine hK.out _ _ ?_ (fun hHeld => ?_)
    · (try dsimp only)
      (try dsimp only)
      first | exact ⟨a0, a1⟩ | exact ⟨cell_keep a0 al (below_new (Below.refl _ _) _), cell_keep a1 al (below_new (Below.refl _ _) _)⟩
    clear hK K
    (try simp only [Act.put, List.setIfInBounds_toArray, List.set_cons_zero, List.set_cons_succ])
    refine wpAnyH_ready (rs := [11]) (by kernel_rfl) (by simp) ?_
    refine AllReadyH.cons (o := ⟨_, _, _, _, _, _⟩) rfl (fun K hK => ?_) AllReadyH.nil
    skip
    (refine step_makeG rfl (.tmp 24) (.tmp 24) 49 4 rfl i1 (.bool false) Tryz.underlying49 HI1.out HZ10.out HZ11.out rfl N rfl rfl (by rw [HZ12.out]; omega) (by omega) hN1 ?_; intro wV hV hb; (repeat (first | replace hb := below_undrew hb | replace hb := below_undrewN hb)); replace a0 := cell_keep a0 al hb; replace a1 := cell_keep a1 al hb; replace al := lt_keep al hb; have HV := Lib.hid hV; have hVs := lt_of_at9 hV; have HVlo := Lib.hid B.out.size; replace HL := Lib.hid ((hb.block _ hLs).trans HL.out); have hne0 := hLs; replace hLs := lt_keep hLs hb; replace B := Lib.hid (below_next B.out hb); clear hV; clear hb)
    refine hK.out _ _ ?_ (fun hHeld => ?_)
    · (try dsimp only)
      (try dsimp only)
      first | exact ⟨a0, a1⟩ | exact ⟨cell_keep a0 al (below_new (Below.refl _ _) _), cell_keep a1 al (below_new (Below.refl _ _) _)⟩
    clear hK K
    (try simp only [Act.put, List.setIfInBounds_toArray, List.set_cons_zero, List.set_cons_succ])
    refine wpAnyH_take (i := 14) (oi := ⟨_, _, _, _, _, _⟩) (v := ?_) rfl (by kernel_rfl) (by kernel_rfl) (by kernel_rfl) (fun _ _ _ h => h) (Or.inl ⟨by rfl, ?_⟩) (by assumption) ?_
    rotate_left
    · intro w hSw
      (try dsimp only at hSw)
      obtain ⟨hSa, hSb⟩ := hSw
      go_simp
      (try with_reducible rfl)
    (try simp only [Act.put, List.setIfInBounds_toArray, List.set_cons_zero, List.set_cons_succ])
    refine wpAnyH_ready (rs := [15]) (by kernel_rfl) (by simp) ?_
    refine AllReadyH.cons (o := ⟨_, _, _, _, _, _⟩) rfl (fun K hK => ?_) AllReadyH.nil
    go_simp
    skip
    refine hK.out _ _ ?_ (fun hHeld => ?_)
    · (try dsimp only)
      (try dsimp only)
      first | exact ⟨a0, a1⟩ | exact ⟨cell_keep a0 al (below_new (Below.refl _ _) _), cell_keep a1 al (below_new (Below.refl _ _) _)⟩
    clear hK K
    (try simp only [Act.put, List.setIfInBounds_toArray, List.set_cons_zero, List.set_cons_succ])
    refine wpAnyH_take (i := 16) (oi := ⟨_, _, _, _, _, _⟩) (v := ?_) rfl (by kernel_rfl) (by kernel_rfl) (by kernel_rfl) (fun _ _ _ h => h) (Or.inl ⟨by rfl, ?_⟩) (by assumption) ?_
    rotate_left
    · intro w hSw
      (try dsimp only at hSw)
      obtain ⟨hSa, hSb⟩ := hSw
      go_simp
      (try with_reducible rfl)
    (try simp only [Act.put, List.setIfInBounds_toArray, List.set_cons_zero, List.set_cons_succ])
    refine wpAnyH_done (by kernel_rfl) ?_ _
    obtain ⟨lb, hlb⟩ : ∃ lb, lb = w.heap.size + 2 := ⟨_, rfl⟩
    obtain ⟨vb, hvb⟩ : ∃ vb, vb = wL.heap.size := ⟨_, rfl⟩
    rw [← hlb, ← hvb]
    have HL0 := Lib.hid (show wV.heap[lb]? = some (.cells (List.replicate N (.slice none 0 0)).toArray 22 (0, 0)) by rw [hlb, ← hs2]; exact HL.out)
    have HV0 := Lib.hid (show wV.heap[vb]? = some (.cells (List.replicate N (.bool false)).toArray 4 (0, 0)) by rw [hvb]; exact HV.out)
    have hlv : lb ≠ vb := by have h9 : W2.heap.size < wL.heap.size := hne0; omega
    have hlb2 : W2.heap.size ≤ lb := by omega
    have hvb2 : W2.heap.size ≤ vb := by rw [hvb]; exact HVlo.out
    clear hlb hvb HL HV hLs hVs hne0
    clear hHeld
    obtain ⟨tb, htb⟩ : ∃ tb, tb = wV.heap.size := ⟨_, rfl⟩
    obtain ⟨V1, hV1⟩ : ∃ V1, V1 = wV.alloc (.cells #[.slice (some ⟨lb, 0, none⟩) N N, .slice (some ⟨vb, 0, none⟩) N N, .slice none 0 0, .int .i64 0, .bool false, .bool fi, .int .i64 0, .slice none 0 0] 51) := ⟨_, rfl⟩
    have HT1 := Lib.hid (show V1.heap[tb]? = some (.cells #[.slice (some ⟨lb, 0, none⟩) N N, .slice (some ⟨vb, 0, none⟩) N N, .slice none 0 0, .int .i64 0, .bool false, .bool fi, .int .i64 0, .slice none 0 0] 51 (0, 0)) by rw [hV1, htb]; exact World.alloc_heap_new _ _)
    have hb1 : Below wV.heap.size wV V1 := by rw [hV1]; exact below_new (Below.refl _ _) _
    have HL1 := Lib.hid ((hb1.block lb (lt_of_at9 HL0.out)).trans HL0.out)
    have HV1 := Lib.hid ((hb1.block vb (lt_of_at9 HV0.out)).trans HV0.out)
    have htlb : lb < tb := by rw [htb]; exact lt_of_at9 HL0.out
    have htvb : vb < tb := by rw [htb]; exact lt_of_at9 HV0.out
    have htw : W2.heap.size ≤ tb := by omega
    replace B := Lib.hid (below_next B.out hb1)
    rw [← hV1, ← htb]
    clear hV1 htb hb1 HL0 HV0 a0 a1 al
    have HBDv := Lib.hid ((B.out.block w.heap.size (by omega)).trans HBD.out)
    have a0 : V1.cell? ⟨w.heap.size, 0, none⟩ = some (.int .i64 W) := by rw [cell_of_row _ _ _ _ _ _ HBDv.out]; rfl
    have a1 : V1.cell? ⟨w.heap.size, 1, none⟩ = some (.int .i64 H) := by rw [cell_of_row _ _ _ _ _ _ HBDv.out]; rfl
    have a2 : V1.cell? ⟨w.heap.size, 2, none⟩ = some (.slice A n c) := by rw [cell_of_row _ _ _ _ _ _ HBDv.out]; rfl
    clear HBDv
    go_wp2_with fail
    refine (boCells_any W H A n c xs _ (R.out.keep B.out) HNN.out).mono ?_
    rintro e wc ⟨AC, nC, cC, rfl, ownC, hb⟩
    have HRC := Lib.hid ownC.rd
    have HCN := Lib.hid ownC.len
    have hspan : ∀ q, rowOf AC = some q → V1.heap.size ≤ q := fun q e => (row_low ownC q e).1
    have HSPAN := Lib.hid hspan
    have nC9 := ownC.rd.2.1
    have ht1 := lt_of_at9 HT1.out
    have HTc := Lib.hid ((hb.block tb ht1).trans HT1.out)
    have HVc := Lib.hid ((hb.block vb (lt_of_at9 HV1.out)).trans HV1.out)
    have HLc := Lib.hid ((hb.block lb (lt_of_at9 HL1.out)).trans HL1.out)
    have HLsz := lt_of_at9 HL1.out
    have HBc := Lib.hid (below_next B.out hb)
    have HBB := Lib.hid ((HBc.out.block w.heap.size (by omega)).trans HBD.out)
    have HLL := Lib.hid ((HBc.out.block (w.heap.size + 1) (by omega)).trans HLD.out)
    have RC := Lib.hid (R.out.keep HBc.out)
    clear ownC hspan hb a0 a1 a2 HT1 HV1 HL1 B
    go_wp2_with fail
    go_loopw [33] (fun s33 wr => ∃ j : Nat, j ≤ nC ∧ s33 = .int .i64 j ∧ RowsAt wr lb tb vb N (leapsL W H xs a b) ((cellsL W H xs).take j) ∧ wc.grownBy wr (some lb)) (fun s33 _ => nC - (intOf s33).toNat)
    case atStart => exact ⟨0, Nat.zero_le _, rfl, ⟨⟨_, HLc.out, by simp⟩, fun z hz => by simp at hz⟩, grown_refl _ _⟩
    case round =>
      obtain ⟨j, hj, rfl, hrows, hgw⟩ := hrel
      have hrc := HRC.out.other hgw (fun q hq => by have := HSPAN.out q.block (by rw [hq]; rfl); simp; omega)
      have hlbw : W2.heap.size ≤ lb := hlb2
      have hbw : Below W2.heap.size W2 wr := HBc.out.grown hgw HBc.out.size (fun q e => by injection e with e; omega)
      have htr := (hgw.block tb (lt_of_at9 HTc.out) (by simp; omega)).trans HTc.out
      have hbd := (hgw.block w.heap.size (lt_of_at9 HBB.out) (by simp; omega)).trans HBB.out
      have hld := (hgw.block (w.heap.size + 1) (lt_of_at9 HLL.out) (by simp; omega)).trans HLL.out
      by_cases hjl : j < nC
      · obtain ⟨b2, o2, y, rfl, hb2, hy, yc⟩ := hrc.at_ hjl
        have hyb := cellsL_mem.1 (List.mem_of_getElem? hy)
        have hyr := (hasB_iff.1 hyb).1
        rw [hWH] at hyr
        obtain ⟨y2, rfl⟩ : ∃ y2 : Nat, y = (y2 : Int) := ⟨y.toNat, by omega⟩
        have hy2 : y2 < N := by omega
        have y20 : (0 : Int) ≤ (y2 : Int) := by omega
        have y2N : (y2 : Int) < (N : Int) := by omega
        have j0 : (0 : Int) ≤ (j : Int) := by omega
        have jn : (j : Int) < (nC : Int) := by omega
        have HY := Lib.hid hy; have HROWS := Lib.hid hrows; have HGW := Lib.hid hgw
        have a0 : wr.cell? ⟨w.heap.size, 0, none⟩ = some (.int .i64 W) := by rw [cell_of_row _ _ _ _ _ _ hbd]; rfl
        have a1 : wr.cell? ⟨w.heap.size, 1, none⟩ = some (.int .i64 H) := by rw [cell_of_row _ _ _ _ _ _ hbd]; rfl
        have a2 : wr.cell? ⟨w.heap.size, 2, none⟩ = some (.slice A n c) := by rw [cell_of_row _ _ _ _ _ _ hbd]; rfl
        have l0 : wr.cell? ⟨w.heap.size + 1, 0, none⟩ = some (.int .i64 a) := by rw [cell_of_row _ _ _ _ _ _ hld]; rfl
        have l1 : wr.cell? ⟨w.heap.size + 1, 1, none⟩ = some (.int .i64 b) := by rw [cell_of_row _ _ _ _ _ _ hld]; rfl
        have q0 : wr.cell? ⟨tb, 0, none⟩ = some (.slice (some ⟨lb, 0, none⟩) N N) := by rw [cell_of_row _ _ _ _ _ _ htr]; rfl
        have la := lt_of_at9 hbd
        have ll := lt_of_at9 hld
        have lt := lt_of_at9 htr
        have HLEAP := Lib.hid (fun (V : World) (hR : Rd V A n xs) => boLeaps_any W H A n c xs a b (y2 : Int) V hR HG.out (by omega))
        have HRD := Lib.hid (R.out.keep hbw)
        have HNI := Lib.hid (show ∀ z ∈ (cellsL W H xs).take j, 0 ≤ z ∧ z ≠ (y2 : Int) from fun z hz => by
          have h1 := (hasB_iff.1 (cellsL_mem.1 (List.mem_of_mem_take hz))).1
          refine ⟨h1.1, fun e => ?_⟩
          obtain ⟨i, hi⟩ := List.mem_iff_getElem?.1 hz
          rw [List.getElem?_take] at hi
          split at hi
          · rename_i hij
            have hnd := cellsL_rise W H xs
            have hii := (List.getElem?_eq_some_iff.1 hi).1
            have hjj := (List.getElem?_eq_some_iff.1 hy).1
            have e1 := (List.getElem?_eq_some_iff.1 hi).2
            have e2 := (List.getElem?_eq_some_iff.1 hy).2
            have h9 := (List.pairwise_iff_getElem.1 hnd) i j hii hjj hij
            omega
          · cases hi)
        clear hy hrows hgw hrc hbd hld htr hyb hyr hbw
        go_wp2_with fail
        refine wp_region_held_drew (S := fun w' => w'.cell? ⟨w.heap.size, 0, none⟩ = some (.int .i64 W) ∧ w'.cell? ⟨w.heap.size, 1, none⟩ = some (.int .i64 H) ∧ w'.cell? ⟨w.heap.size, 2, none⟩ = some (.slice A n c) ∧ w'.cell? ⟨w.heap.size + 1, 0, none⟩ = some (.int .i64 a) ∧ w'.cell? ⟨w.heap.size + 1, 1, none⟩ = some (.int .i64 b) ∧ w'.cell? ⟨tb, 0, none⟩ = some (.slice (some ⟨lb, 0, none⟩) N N)) (by kernel_rfl) ?_ (fun hHeld => ?_)
        · (try dsimp only)
          exact ⟨a0, a1, a2, l0, l1, q0⟩
        refine wpAnyH_take (i := 0) (oi := ⟨_, _, _, _, _, _⟩) (v := ?_) rfl (by kernel_rfl) (by kernel_rfl) (by kernel_rfl) (fun _ _ _ h => h) (Or.inl ⟨by rfl, ?_⟩) (by assumption) ?_
        rotate_left
        · intro w hSw
          (try dsimp only at hSw)
          obtain ⟨hSa, hSb, hSc, hSd, hSe, hSf⟩ := hSw
          go_simp
          (try with_reducible rfl)
        (try simp only [Act.put, List.setIfInBounds_toArray, List.set_cons_zero, List.set_cons_succ])
        refine wpAnyH_take (i := 1) (oi := ⟨_, _, _, _, _, _⟩) (v := ?_) rfl (by kernel_rfl) (by kernel_rfl) (by kernel_rfl) (fun _ _ _ h => h) (Or.inl ⟨by rfl, ?_⟩) (by assumption) ?_
        rotate_left
        · intro w hSw
          (try dsimp only at hSw)
          obtain ⟨hSa, hSb, hSc, hSd, hSe, hSf⟩ := hSw
          go_simp
          (try with_reducible rfl)
        (try simp only [Act.put, List.setIfInBounds_toArray, List.set_cons_zero, List.set_cons_succ])
        refine wpAnyH_take (i := 2) (oi := ⟨_, _, _, _, _, _⟩) (v := ?_) rfl (by kernel_rfl) (by kernel_rfl) (by kernel_rfl) (fun _ _ _ h => h) (Or.inl ⟨by rfl, ?_⟩) (by assumption) ?_
        rotate_left
        · intro w hSw
          (try dsimp only at hSw)
          obtain ⟨hSa, hSb, hSc, hSd, hSe, hSf⟩ := hSw
          go_simp
          (try with_reducible rfl)
        (try simp only [Act.put, List.setIfInBounds_toArray, List.set_cons_zero, List.set_cons_succ])
        refine wpAnyH_take (i := 3) (oi := ⟨_, _, _, _, _, _⟩) (v := ?_) rfl (by kernel_rfl) (by kernel_rfl) (by kernel_rfl) (fun _ _ _ h => h) (Or.inl ⟨by rfl, ?_⟩) (by assumption) ?_
        rotate_left
        · intro w hSw
          (try dsimp only at hSw)
          obtain ⟨hSa, hSb, hSc, hSd, hSe, hSf⟩ := hSw
          go_simp
          (try with_reducible rfl)
        (try simp only [Act.put, List.setIfInBounds_toArray, List.set_cons_zero, List.set_cons_succ])
        refine wpAnyH_take (i := 4) (oi := ⟨_, _, _, _, _, _⟩) (v := ?_) rfl (by kernel_rfl) (by kernel_rfl) (by kernel_rfl) (fun _ _ _ h => h) (Or.inl ⟨by rfl, ?_⟩) (by assumption) ?_
        rotate_left
        · intro w hSw
          (try dsimp only at hSw)
          obtain ⟨hSa, hSb, hSc, hSd, hSe, hSf⟩ := hSw
          go_simp
          (try with_reducible rfl)
        (try simp only [Act.put, List.setIfInBounds_toArray, List.set_cons_zero, List.set_cons_succ])
        refine wpAnyH_take (i := 5) (oi := ⟨_, _, _, _, _, _⟩) (v := ?_) rfl (by kernel_rfl) (by kernel_rfl) (by kernel_rfl) (fun _ _ _ h => h) (Or.inl ⟨by rfl, ?_⟩) (by assumption) ?_
        rotate_left
        · intro w hSw
          (try dsimp only at hSw)
          obtain ⟨hSa, hSb, hSc, hSd, hSe, hSf⟩ := hSw
          go_simp
          (try with_reducible rfl)
        (try simp only [Act.put, List.setIfInBounds_toArray, List.set_cons_zero, List.set_cons_succ])
        refine wpAnyH_take (i := 6) (oi := ⟨_, _, _, _, _, _⟩) (v := ?_) rfl (by kernel_rfl) (by kernel_rfl) (by kernel_rfl) (fun _ _ _ h => h) (Or.inl ⟨by rfl, ?_⟩) (by assumption) ?_
        rotate_left
        · intro w hSw
          (try dsimp only at hSw)
          obtain ⟨hSa, hSb, hSc, hSd, hSe, hSf⟩ := hSw
          go_simp
          (try with_reducible rfl)
        (try simp only [Act.put, List.setIfInBounds_toArray, List.set_cons_zero, List.set_cons_succ])
        refine wpAnyH_take (i := 7) (oi := ⟨_, _, _, _, _, _⟩) (v := ?_) rfl (by kernel_rfl) (by kernel_rfl) (by kernel_rfl) (fun _ _ _ h => h) (Or.inl ⟨by rfl, ?_⟩) (by assumption) ?_
        rotate_left
        · intro w hSw
          (try dsimp only at hSw)
          obtain ⟨hSa, hSb, hSc, hSd, hSe, hSf⟩ := hSw
          go_simp
          (try with_reducible rfl)
        (try simp only [Act.put, List.setIfInBounds_toArray, List.set_cons_zero, List.set_cons_succ])
        refine wpAnyH_ready (rs := [8]) (by kernel_rfl) (by simp) ?_
        refine AllReadyH.cons (o := ⟨_, _, _, _, _, _⟩) rfl (fun K hK => ?_) AllReadyH.nil
        go_simp
        (go_at_call 52; refine (HLEAP.out _ (by exact HRD.out)).mono ?_; rintro e wv ⟨A3, n3, c3, rfl, own3, hb⟩; (repeat (first | replace hb := below_undrew hb | replace hb := below_undrewN hb)); replace a0 := cell_keep a0 la hb; replace a1 := cell_keep a1 la hb; replace a2 := cell_keep a2 la hb; replace l0 := cell_keep l0 ll hb; replace l1 := cell_keep l1 ll hb; replace q0 := cell_keep q0 lt hb; have HRO := Lib.hid (HROWS.out.keep hb); have HGO := Lib.hid (HGW.out.trans (grown_of_below hb (some lb))); have HR3 := Lib.hid own3.rd; have HA3 := Lib.hid (show ∀ q, A3 = some q → q.block < wv.heap.size ∧ q.block ≠ tb ∧ q.block ≠ vb ∧ q.block ≠ lb from fun q hq => (by have h1 := row_low own3 q.block (by rw [hq]; rfl); have h2 : wr.heap.size ≤ q.block := h1.1; have h3 := lt; have h4 := HGW.out.size; have h5 := lt_of_at9 HVc.out; have h6 := lt_of_at9 HLc.out; omega)); clear own3 hb)
        (try go_wp2_with fail)
        obtain ⟨cur5, hcur5, hsz5⟩ : ∃ cur : Array Value, wv.heap[lb]? = some (.cells cur 22 (0, 0)) ∧ cur.size = N := HRO.out.1
        have qy : wv.cell? ⟨lb, y2, none⟩ = some cur5[y2] := by rw [cell_of_row _ _ _ _ _ _ hcur5]; exact Array.getElem?_eq_getElem (by omega)
        have qf : wv.frozen? ⟨lb, y2, none⟩ = false := frozen_of_row _ _ _ _ _ hcur5
        refine hK.out _ _ ?_ (fun hHeld => ?_)
        · (try dsimp only)
          (try dsimp only)
          first | exact ⟨a0, a1, a2, l0, l1, q0⟩ | exact ⟨(grown_set _ _ _ _).cell a0 (by simp; omega), (grown_set _ _ _ _).cell a1 (by simp; omega), (grown_set _ _ _ _).cell a2 (by simp; omega), (grown_set _ _ _ _).cell l0 (by simp; omega), (grown_set _ _ _ _).cell l1 (by simp; omega), (grown_set _ _ _ _).cell q0 (by simp; omega)⟩
        clear hK K
        (try simp only [Act.put, List.setIfInBounds_toArray, List.set_cons_zero, List.set_cons_succ])
        refine wpAnyH_take (i := 9) (oi := ⟨_, _, _, _, _, _⟩) (v := ?_) rfl (by kernel_rfl) (by kernel_rfl) (by kernel_rfl) (fun _ _ _ h => h) (Or.inl ⟨by rfl, ?_⟩) (by assumption) ?_
        rotate_left
        · intro w hSw
          (try dsimp only at hSw)
          obtain ⟨hSa, hSb, hSc, hSd, hSe, hSf⟩ := hSw
          go_simp
          (try with_reducible rfl)
        (try simp only [Act.put, List.setIfInBounds_toArray, List.set_cons_zero, List.set_cons_succ])
        refine wpAnyH_ready (rs := [10]) (by kernel_rfl) (by simp) ?_
        refine AllReadyH.cons (o := ⟨_, _, _, _, _, _⟩) rfl (fun K hK => ?_) AllReadyH.nil
        go_simp
        skip
        refine hK.out _ _ ?_ (fun hHeld => ?_)
        · (try dsimp only)
          (try dsimp only)
          first | exact ⟨a0, a1, a2, l0, l1, q0⟩ | exact ⟨(grown_set _ _ _ _).cell a0 (by simp; omega), (grown_set _ _ _ _).cell a1 (by simp; omega), (grown_set _ _ _ _).cell a2 (by simp; omega), (grown_set _ _ _ _).cell l0 (by simp; omega), (grown_set _ _ _ _).cell l1 (by simp; omega), (grown_set _ _ _ _).cell q0 (by simp; omega)⟩
        clear hK K
        (try simp only [Act.put, List.setIfInBounds_toArray, List.set_cons_zero, List.set_cons_succ])
        refine wpAnyH_done (by kernel_rfl) ?_ _
        clear hHeld
        have HPU := Lib.hid (show RowsAt (wv.setCell ⟨lb, y2, none⟩ (.slice A3 n3 c3)) lb tb vb N (leapsL W H xs a b) ((cellsL W H xs).take (j + 1)) from by
          rw [List.take_add_one, HY.out]
          exact HRO.out.push hy2 HR3.out HA3.out HNI.out)
        have HGU := Lib.hid (HGO.out.trans (grown_set wv lb y2 (.slice A3 n3 c3)))
        go_wp2_with fail
        go_roundw
        case rel => exact ⟨j + 1, by omega, by go_num, HPU.out, HGU.out⟩
        case measure => simp [intOf]; omega
      · obtain rfl : j = nC := by omega
        have HROWS := Lib.hid (show RowsAt wr lb tb vb N (leapsL W H xs a b) (cellsL W H xs) from by
          have h := hrows
          rw [List.take_of_length_le (by have := HCN.out; omega)] at h
          exact h)
        have HTR := Lib.hid htr
        have HVR := Lib.hid ((hgw.block vb (lt_of_at9 HVc.out) (by have := hlv; simp; omega)).trans HVc.out)
        have HBW := Lib.hid hbw
        have a0 : wr.cell? ⟨w.heap.size, 0, none⟩ = some (.int .i64 W) := by rw [cell_of_row _ _ _ _ _ _ hbd]; rfl
        have a1 : wr.cell? ⟨w.heap.size, 1, none⟩ = some (.int .i64 H) := by rw [cell_of_row _ _ _ _ _ _ hbd]; rfl
        have a2 : wr.cell? ⟨w.heap.size, 2, none⟩ = some (.slice A n c) := by rw [cell_of_row _ _ _ _ _ _ hbd]; rfl
        have RZ := Lib.hid (R.out.keep hbw)
        clear hrows hgw hrc hbd hld htr hbw
        go_wp2_with fail
        refine (boCells_any W H A n c xs _ RZ.out HNN.out).mono ?_
        rintro e wz ⟨AZ, nZ, cZ, rfl, ownZ, hbz⟩
        have hnz : nZ = m + 1 := by have := ownZ.len; omega
        subst hnz
        have HRZ := Lib.hid (HROWS.out.keep hbz)
        have HTZ := Lib.hid ((hbz.block tb (lt_of_at9 HTR.out)).trans HTR.out)
        have HVZ := Lib.hid ((hbz.block vb (lt_of_at9 HVR.out)).trans HVR.out)
        have HBZ := Lib.hid (below_next HBW.out hbz)
        have t3 : wz.cell? ⟨tb, 3, none⟩ = some (.int .i64 0) := by rw [cell_of_row _ _ _ _ _ _ HTZ.out]; rfl
        have t3f : wz.frozen? ⟨tb, 3, none⟩ = false := frozen_of_row _ _ _ _ _ HTZ.out
        clear ownZ hbz a0 a1 a2
        go_wp2_with fail
        obtain ⟨S, hS⟩ : ∃ S, S = wz.setCell ⟨tb, 3, none⟩ (.int .i64 ((m : Int) + 1)) := ⟨_, rfl⟩
        have hgS : wz.grownBy S (some tb) := by rw [hS]; exact grown_set _ _ _ _
        have hzs : wz.heap.size ≤ S.heap.size := hgS.size
        have htz := lt_of_at9 HTZ.out
        have hvz := lt_of_at9 HVZ.out
        obtain ⟨⟨curz, hcz, hczs⟩, hrz⟩ := HRZ.out
        have hlz := lt_of_at9 hcz
        have hstS : S.heap[tb]? = some (.cells #[.slice (some ⟨lb, 0, none⟩) N N, .slice (some ⟨vb, 0, none⟩) N N, .slice none 0 0, .int .i64 ((m + 1 : Nat) : Int), .bool false, .bool fi, .int .i64 ((0 : Nat) : Int), .slice none 0 0] 51 (0, 0)) := by
          rw [hS, heap_set _ HTZ.out]; rfl
        have hnl : ∀ q, (leapsL W H xs a b q).Nodup := fun q => ((cellsL_rise W H xs).imp (fun h => by omega)).filter _
        have hSR : SrAt S wz.heap.size tb lb vb N (leapsL W H xs a b) (cellsL W H xs) [] none 0 0 (m + 1) false fi 0 none 0 0 := by
          refine ⟨hstS, ?_, fun z hz => ?_, ⟨htz, hvz, hlz, by omega, by omega, fun e => hlv e.symm, hzs⟩, ⟨fun y hy => ?_, hN1, hN64, fun q y hy => (List.mem_filter.1 hy).1, (cellsL_rise W H xs).imp (fun h => by omega)⟩⟩
          · rw [(hgS.block vb hvz (by simp; omega)).trans HVZ.out]
            congr 3
            exact (List.eq_replicate_iff.2 ⟨by simp [boolRow], fun v hv => by simp [boolRow] at hv; exact hv.2.symm⟩).symm
          · obtain ⟨A', n', c', h1, h2, h3⟩ := hrz z hz
            exact ⟨A', n', c', hgS.cell h1 (by simp; omega), h2.other hgS (fun q hq => by have := (h3 q hq).2.1; simpa using this), fun q hq => ⟨(h3 q hq).1, (h3 q hq).2.1, (h3 q hq).2.2.1⟩⟩
          · have := (hasB_iff.1 (cellsL_mem.1 hy)).1; rw [hWH] at this; exact this
        have hBS : Below w.heap.size w wz := (B0.out.trans (HBZ.out.mono (by omega)))
        have hB2 : Below w.heap.size w S := hBS.grown hgS hBS.size (fun q e => by injection e with e; omega)
        have HZL := Lib.hid hBS.size
        rw [← hS]
        clear hS
        refine (go1_any wz.heap.size tb lb vb N (leapsL W H xs a b) (cellsL W H xs) fi hnl m S [] [] none 0 0 0 none 0 0 x hSR (OwnI.none_ _ _ _) (OwnI.none_ _ _ _) (fun q hq => by cases hq) (walk_one _) (fun y hy => by rw [List.mem_singleton.1 hy]; exact cellsL_mem.2 hx) (by rw [hm]; simp; omega) (fun _ => rfl) (by have := fac_19 (show m ≤ 19 by omega); omega) (by omega)).mono ?_
        rintro e wf ⟨A', c', F, nf, cf, ⟨v, rfl⟩, hsr, hown, hfo, hap, hkp⟩
        have HSR := Lib.hid hsr; have HFO := Lib.hid hfo; have HKP := Lib.hid hkp; have HB2 := Lib.hid hB2
        clear hsr hown hfo hap hkp hBS hB2 hgS hstS hSR
        go_wp2_with fail
        go_ret
        refine ⟨tb, lb, vb, N, wz.heap.size, A', c', F, nf, cf, rfl, HSR.out, HFO.out, HZL.out, ?_⟩
        exact ⟨HKP.out.os.trans HB2.out.os, HKP.out.tape.trans HB2.out.tape, HKP.out.output.trans HB2.out.output, Nat.le_trans HB2.out.size HKP.out.size, fun q hq => (HKP.out.block q (by have := HZL.out; omega) (by omega) (by omega)).trans (HB2.out.block q hq)⟩
  refine AllReadyH.cons (o := ⟨_, _, _, _, _, _⟩) rfl (fun K hK => ?_) AllReadyH.nil
  skip
  (refine step_makeG rfl (.tmp 24) (.tmp 24) 49 4 rfl i1 (.bool false) Tryz.underlying49 HI1.out HZ10.out HZ11.out rfl N rfl rfl (by rw [HZ12.out]; omega) (by omega) hN1 ?_; intro wV hV hb; (repeat (first | replace hb := below_undrew hb | replace hb := below_undrewN hb)); replace a0 := cell_keep a0 al hb; replace a1 := cell_keep a1 al hb; replace al := lt_keep al hb; have HV := Lib.hid hV; have hVs := lt_of_at9 hV; have HVlo := Lib.hid B.out.size; replace B := Lib.hid (below_next B.out hb); clear hV; clear hb)
  refine hK.out _ _ ?_ (fun hHeld => ?_)
  · (try dsimp only)
    (try dsimp only)
    first | exact ⟨a0, a1⟩ | exact ⟨cell_keep a0 al (below_new (Below.refl _ _) _), cell_keep a1 al (below_new (Below.refl _ _) _)⟩
  clear hK K
  (try simp only [Act.put, List.setIfInBounds_toArray, List.set_cons_zero, List.set_cons_succ])
  refine wpAnyH_ready (rs := [5]) (by kernel_rfl) (by simp) ?_
  refine AllReadyH.cons (o := ⟨_, _, _, _, _, _⟩) rfl (fun K hK => ?_) AllReadyH.nil
  skip
  (refine step_makeG rfl (.tmp 18) (.tmp 18) 48 22 rfl iS (.slice none 0 0) Tryz.underlying48 HS.out HS0.out HS1.out rfl N rfl rfl (by rw [HS2.out]; omega) (by omega) hN1 ?_; intro wL hL hb; (repeat (first | replace hb := below_undrew hb | replace hb := below_undrewN hb)); replace a0 := cell_keep a0 al hb; replace a1 := cell_keep a1 al hb; replace al := lt_keep al hb; have HL := Lib.hid hL; have hLs := lt_of_at9 hL; have HLlo := Lib.hid B.out.size; replace HV := Lib.hid ((hb.block _ hVs).trans HV.out); have hne0 := hVs; replace hVs := lt_keep hVs hb; replace B := Lib.hid (below_next B.out hb); clear hL; clear hb)
  refine hK.out _ _ ?_ (fun hHeld => ?_)
  · (try dsimp only)
    (try dsimp only)
    first | exact ⟨a0, a1⟩ | exact ⟨cell_keep a0 al (below_new (Below.refl _ _) _), cell_keep a1 al (below_new (Below.refl _ _) _)⟩
  clear hK K
  (try simp only [Act.put, List.setIfInBounds_toArray, List.set_cons_zero, List.set_cons_succ])
  refine wpAnyH_take (i := 14) (oi := ⟨_, _, _, _, _, _⟩) (v := ?_) rfl (by kernel_rfl) (by kernel_rfl) (by kernel_rfl) (fun _ _ _ h => h) (Or.inl ⟨by rfl, ?_⟩) (by assumption) ?_
  rotate_left
  · intro w hSw
    (try dsimp only at hSw)
    obtain ⟨hSa, hSb⟩ := hSw
    go_simp
    (try with_reducible rfl)
  (try simp only [Act.put, List.setIfInBounds_toArray, List.set_cons_zero, List.set_cons_succ])
  refine wpAnyH_ready (rs := [15]) (by kernel_rfl) (by simp) ?_
  refine AllReadyH.cons (o := ⟨_, _, _, _, _, _⟩) rfl (fun K hK => ?_) AllReadyH.nil
  go_simp
  skip
  refine hK.out _ _ ?_ (fun hHeld => ?_)
  · (try dsimp only)
    (try dsimp only)
    first | exact ⟨a0, a1⟩ | exact ⟨cell_keep a0 al (below_new (Below.refl _ _) _), cell_keep a1 al (below_new (Below.refl _ _) _)⟩
  clear hK K
  (try simp only [Act.put, List.setIfInBounds_toArray, List.set_cons_zero, List.set_cons_succ])
  refine wpAnyH_take (i := 16) (oi := ⟨_, _, _, _, _, _⟩) (v := ?_) rfl (by kernel_rfl) (by kernel_rfl) (by kernel_rfl) (fun _ _ _ h => h) (Or.inl ⟨by rfl, ?_⟩) (by assumption) ?_
  rotate_left
  · intro w hSw
    (try dsimp only at hSw)
    obtain ⟨hSa, hSb⟩ := hSw
    go_simp
    (try with_reducible rfl)
  (try simp only [Act.put, List.setIfInBounds_toArray, List.set_cons_zero, List.set_cons_succ])
  refine wpAnyH_done (by kernel_rfl) ?_ _
  obtain ⟨vb, hvb⟩ : ∃ vb, vb = w.heap.size + 2 := ⟨_, rfl⟩
  obtain ⟨lb, hlb⟩ : ∃ lb, lb = wV.heap.size := ⟨_, rfl⟩
  rw [← hvb, ← hlb]
  have HL0 := Lib.hid (show wL.heap[lb]? = some (.cells (List.replicate N (.slice none 0 0)).toArray 22 (0, 0)) by rw [hlb]; exact HL.out)
  have HV0 := Lib.hid (show wL.heap[vb]? = some (.cells (List.replicate N (.bool false)).toArray 4 (0, 0)) by rw [hvb, ← hs2]; exact HV.out)
  have hlv : lb ≠ vb := by have h9 : W2.heap.size < wV.heap.size := hne0; omega
  have hvb2 : W2.heap.size ≤ vb := by omega
  have hlb2 : W2.heap.size ≤ lb := by rw [hlb]; exact HLlo.out
  clear hlb hvb HL HV hLs hVs hne0
  clear hHeld
  obtain ⟨tb, htb⟩ : ∃ tb, tb = wL.heap.size := ⟨_, rfl⟩
  obtain ⟨V1, hV1⟩ : ∃ V1, V1 = wL.alloc (.cells #[.slice (some ⟨lb, 0, none⟩) N N, .slice (some ⟨vb, 0, none⟩) N N, .slice none 0 0, .int .i64 0, .bool false, .bool fi, .int .i64 0, .slice none 0 0] 51) := ⟨_, rfl⟩
  have HT1 := Lib.hid (show V1.heap[tb]? = some (.cells #[.slice (some ⟨lb, 0, none⟩) N N, .slice (some ⟨vb, 0, none⟩) N N, .slice none 0 0, .int .i64 0, .bool false, .bool fi, .int .i64 0, .slice none 0 0] 51 (0, 0)) by rw [hV1, htb]; exact World.alloc_heap_new _ _)
  have hb1 : Below wL.heap.size wL V1 := by rw [hV1]; exact below_new (Below.refl _ _) _
  have HL1 := Lib.hid ((hb1.block lb (lt_of_at9 HL0.out)).trans HL0.out)
  have HV1 := Lib.hid ((hb1.block vb (lt_of_at9 HV0.out)).trans HV0.out)
  have htlb : lb < tb := by rw [htb]; exact lt_of_at9 HL0.out
  have htvb : vb < tb := by rw [htb]; exact lt_of_at9 HV0.out
  have htw : W2.heap.size ≤ tb := by omega
  replace B := Lib.hid (below_next B.out hb1)
  rw [← hV1, ← htb]
  clear hV1 htb hb1 HL0 HV0 a0 a1 al
  have HBDv := Lib.hid ((B.out.block w.heap.size (by omega)).trans HBD.out)
  have a0 : V1.cell? ⟨w.heap.size, 0, none⟩ = some (.int .i64 W) := by rw [cell_of_row _ _ _ _ _ _ HBDv.out]; rfl
  have a1 : V1.cell? ⟨w.heap.size, 1, none⟩ = some (.int .i64 H) := by rw [cell_of_row _ _ _ _ _ _ HBDv.out]; rfl
  have a2 : V1.cell? ⟨w.heap.size, 2, none⟩ = some (.slice A n c) := by rw [cell_of_row _ _ _ _ _ _ HBDv.out]; rfl
  clear HBDv
  go_wp2_with fail
  refine (boCells_any W H A n c xs _ (R.out.keep B.out) HNN.out).mono ?_
  rintro e wc ⟨AC, nC, cC, rfl, ownC, hb⟩
  have HRC := Lib.hid ownC.rd
  have HCN := Lib.hid ownC.len
  have hspan : ∀ q, rowOf AC = some q → V1.heap.size ≤ q := fun q e => (row_low ownC q e).1
  have HSPAN := Lib.hid hspan
  have nC9 := ownC.rd.2.1
  have ht1 := lt_of_at9 HT1.out
  have HTc := Lib.hid ((hb.block tb ht1).trans HT1.out)
  have HVc := Lib.hid ((hb.block vb (lt_of_at9 HV1.out)).trans HV1.out)
  have HLc := Lib.hid ((hb.block lb (lt_of_at9 HL1.out)).trans HL1.out)
  have HLsz := lt_of_at9 HL1.out
  have HBc := Lib.hid (below_next B.out hb)
  have HBB := Lib.hid ((HBc.out.block w.heap.size (by omega)).trans HBD.out)
  have HLL := Lib.hid ((HBc.out.block (w.heap.size + 1) (by omega)).trans HLD.out)
  have RC := Lib.hid (R.out.keep HBc.out)
  clear ownC hspan hb a0 a1 a2 HT1 HV1 HL1 B
  go_wp2_with fail
  go_loopw [33] (fun s33 wr => ∃ j : Nat, j ≤ nC ∧ s33 = .int .i64 j ∧ RowsAt wr lb tb vb N (leapsL W H xs a b) ((cellsL W H xs).take j) ∧ wc.grownBy wr (some lb)) (fun s33 _ => nC - (intOf s33).toNat)
  case atStart => exact ⟨0, Nat.zero_le _, rfl, ⟨⟨_, HLc.out, by simp⟩, fun z hz => by simp at hz⟩, grown_refl _ _⟩
  case round =>
    obtain ⟨j, hj, rfl, hrows, hgw⟩ := hrel
    have hrc := HRC.out.other hgw (fun q hq => by have := HSPAN.out q.block (by rw [hq]; rfl); simp; omega)
    have hlbw : W2.heap.size ≤ lb := hlb2
    have hbw : Below W2.heap.size W2 wr := HBc.out.grown hgw HBc.out.size (fun q e => by injection e with e; omega)
    have htr := (hgw.block tb (lt_of_at9 HTc.out) (by simp; omega)).trans HTc.out
    have hbd := (hgw.block w.heap.size (lt_of_at9 HBB.out) (by simp; omega)).trans HBB.out
    have hld := (hgw.block (w.heap.size + 1) (lt_of_at9 HLL.out) (by simp; omega)).trans HLL.out
    by_cases hjl : j < nC
    · obtain ⟨b2, o2, y, rfl, hb2, hy, yc⟩ := hrc.at_ hjl
      have hyb := cellsL_mem.1 (List.mem_of_getElem? hy)
      have hyr := (hasB_iff.1 hyb).1
      rw [hWH] at hyr
      obtain ⟨y2, rfl⟩ : ∃ y2 : Nat, y = (y2 : Int) := ⟨y.toNat, by omega⟩
      have hy2 : y2 < N := by omega
      have y20 : (0 : Int) ≤ (y2 : Int) := by omega
      have y2N : (y2 : Int) < (N : Int) := by omega
      have j0 : (0 : Int) ≤ (j : Int) := by omega
      have jn : (j : Int) < (nC : Int) := by omega
      have HY := Lib.hid hy; have HROWS := Lib.hid hrows; have HGW := Lib.hid hgw
      have a0 : wr.cell? ⟨w.heap.size, 0, none⟩ = some (.int .i64 W) := by rw [cell_of_row _ _ _ _ _ _ hbd]; rfl
      have a1 : wr.cell? ⟨w.heap.size, 1, none⟩ = some (.int .i64 H) := by rw [cell_of_row _ _ _ _ _ _ hbd]; rfl
      have a2 : wr.cell? ⟨w.heap.size, 2, none⟩ = some (.slice A n c) := by rw [cell_of_row _ _ _ _ _ _ hbd]; rfl
      have l0 : wr.cell? ⟨w.heap.size + 1, 0, none⟩ = some (.int .i64 a) := by rw [cell_of_row _ _ _ _ _ _ hld]; rfl
      have l1 : wr.cell? ⟨w.heap.size + 1, 1, none⟩ = some (.int .i64 b) := by rw [cell_of_row _ _ _ _ _ _ hld]; rfl
      have q0 : wr.cell? ⟨tb, 0, none⟩ = some (.slice (some ⟨lb, 0, none⟩) N N) := by rw [cell_of_row _ _ _ _ _ _ htr]; rfl
      have la := lt_of_at9 hbd
      have ll := lt_of_at9 hld
      have lt := lt_of_at9 htr
      have HLEAP := Lib.hid (fun (V : World) (hR : Rd V A n xs) => boLeaps_any W H A n c xs a b (y2 : Int) V hR HG.out (by omega))
      have HRD := Lib.hid (R.out.keep hbw)
      have HNI := Lib.hid (show ∀ z ∈ (cellsL W H xs).take j, 0 ≤ z ∧ z ≠ (y2 : Int) from fun z hz => by
        have h1 := (hasB_iff.1 (cellsL_mem.1 (List.mem_of_mem_take hz))).1
        refine ⟨h1.1, fun e => ?_⟩
        obtain ⟨i, hi⟩ := List.mem_iff_getElem?.1 hz
        rw [List.getElem?_take] at hi
        split at hi
        · rename_i hij
          have hnd := cellsL_rise W H xs
          have hii := (List.getElem?_eq_some_iff.1 hi).1
          have hjj := (List.getElem?_eq_some_iff.1 hy).1
          have e1 := (List.getElem?_eq_some_iff.1 hi).2
          have e2 := (List.getElem?_eq_some_iff.1 hy).2
          have h9 := (List.pairwise_iff_getElem.1 hnd) i j hii hjj hij
          omega
        · cases hi)
      clear hy hrows hgw hrc hbd hld htr hyb hyr hbw
      go_wp2_with fail
      refine wp_region_held_drew (S := fun w' => w'.cell? ⟨w.heap.size, 0, none⟩ = some (.int .i64 W) ∧ w'.cell? ⟨w.heap.size, 1, none⟩ = some (.int .i64 H) ∧ w'.cell? ⟨w.heap.size, 2, none⟩ = some (.slice A n c) ∧ w'.cell? ⟨w.heap.size + 1, 0, none⟩ = some (.int .i64 a) ∧ w'.cell? ⟨w.heap.size + 1, 1, none⟩ = some (.int .i64 b) ∧ w'.cell? ⟨tb, 0, none⟩ = some (.slice (some ⟨lb, 0, none⟩) N N)) (by kernel_rfl) ?_ (fun hHeld => ?_)
      · (try dsimp only)
        exact ⟨a0, a1, a2, l0, l1, q0⟩
      refine wpAnyH_take (i := 0) (oi := ⟨_, _, _, _, _, _⟩) (v := ?_) rfl (by kernel_rfl) (by kernel_rfl) (by kernel_rfl) (fun _ _ _ h => h) (Or.inl ⟨by rfl, ?_⟩) (by assumption) ?_
      rotate_left
      · intro w hSw
        (try dsimp only at hSw)
        obtain ⟨hSa, hSb, hSc, hSd, hSe, hSf⟩ := hSw
        go_simp
        (try with_reducible rfl)
      (try simp only [Act.put, List.setIfInBounds_toArray, List.set_cons_zero, List.set_cons_succ])
      refine wpAnyH_take (i := 1) (oi := ⟨_, _, _, _, _, _⟩) (v := ?_) rfl (by kernel_rfl) (by kernel_rfl) (by kernel_rfl) (fun _ _ _ h => h) (Or.inl ⟨by rfl, ?_⟩) (by assumption) ?_
      rotate_left
      · intro w hSw
        (try dsimp only at hSw)
        obtain ⟨hSa, hSb, hSc, hSd, hSe, hSf⟩ := hSw
        go_simp
        (try with_reducible rfl)
      (try simp only [Act.put, List.setIfInBounds_toArray, List.set_cons_zero, List.set_cons_succ])
      refine wpAnyH_take (i := 2) (oi := ⟨_, _, _, _, _, _⟩) (v := ?_) rfl (by kernel_rfl) (by kernel_rfl) (by kernel_rfl) (fun _ _ _ h => h) (Or.inl ⟨by rfl, ?_⟩) (by assumption) ?_
      rotate_left
      · intro w hSw
        (try dsimp only at hSw)
        obtain ⟨hSa, hSb, hSc, hSd, hSe, hSf⟩ := hSw
        go_simp
        (try with_reducible rfl)
      (try simp only [Act.put, List.setIfInBounds_toArray, List.set_cons_zero, List.set_cons_succ])
      refine wpAnyH_take (i := 3) (oi := ⟨_, _, _, _, _, _⟩) (v := ?_) rfl (by kernel_rfl) (by kernel_rfl) (by kernel_rfl) (fun _ _ _ h => h) (Or.inl ⟨by rfl, ?_⟩) (by assumption) ?_
      rotate_left
      · intro w hSw
        (try dsimp only at hSw)
        obtain ⟨hSa, hSb, hSc, hSd, hSe, hSf⟩ := hSw
        go_simp
        (try with_reducible rfl)
      (try simp only [Act.put, List.setIfInBounds_toArray, List.set_cons_zero, List.set_cons_succ])
      refine wpAnyH_take (i := 4) (oi := ⟨_, _, _, _, _, _⟩) (v := ?_) rfl (by kernel_rfl) (by kernel_rfl) (by kernel_rfl) (fun _ _ _ h => h) (Or.inl ⟨by rfl, ?_⟩) (by assumption) ?_
      rotate_left
      · intro w hSw
        (try dsimp only at hSw)
        obtain ⟨hSa, hSb, hSc, hSd, hSe, hSf⟩ := hSw
        go_simp
        (try with_reducible rfl)
      (try simp only [Act.put, List.setIfInBounds_toArray, List.set_cons_zero, List.set_cons_succ])
      refine wpAnyH_take (i := 5) (oi := ⟨_, _, _, _, _, _⟩) (v := ?_) rfl (by kernel_rfl) (by kernel_rfl) (by kernel_rfl) (fun _ _ _ h => h) (Or.inl ⟨by rfl, ?_⟩) (by assumption) ?_
      rotate_left
      · intro w hSw
        (try dsimp only at hSw)
        obtain ⟨hSa, hSb, hSc, hSd, hSe, hSf⟩ := hSw
        go_simp
        (try with_reducible rfl)
      (try simp only [Act.put, List.setIfInBounds_toArray, List.set_cons_zero, List.set_cons_succ])
      refine wpAnyH_take (i := 6) (oi := ⟨_, _, _, _, _, _⟩) (v := ?_) rfl (by kernel_rfl) (by kernel_rfl) (by kernel_rfl) (fun _ _ _ h => h) (Or.inl ⟨by rfl, ?_⟩) (by assumption) ?_
      rotate_left
      · intro w hSw
        (try dsimp only at hSw)
        obtain ⟨hSa, hSb, hSc, hSd, hSe, hSf⟩ := hSw
        go_simp
        (try with_reducible rfl)
      (try simp only [Act.put, List.setIfInBounds_toArray, List.set_cons_zero, List.set_cons_succ])
      refine wpAnyH_take (i := 7) (oi := ⟨_, _, _, _, _, _⟩) (v := ?_) rfl (by kernel_rfl) (by kernel_rfl) (by kernel_rfl) (fun _ _ _ h => h) (Or.inl ⟨by rfl, ?_⟩) (by assumption) ?_
      rotate_left
      · intro w hSw
        (try dsimp only at hSw)
        obtain ⟨hSa, hSb, hSc, hSd, hSe, hSf⟩ := hSw
        go_simp
        (try with_reducible rfl)
      (try simp only [Act.put, List.setIfInBounds_toArray, List.set_cons_zero, List.set_cons_succ])
      refine wpAnyH_ready (rs := [8]) (by kernel_rfl) (by simp) ?_
      refine AllReadyH.cons (o := ⟨_, _, _, _, _, _⟩) rfl (fun K hK => ?_) AllReadyH.nil
      go_simp
      (go_at_call 52; refine (HLEAP.out _ (by exact HRD.out)).mono ?_; rintro e wv ⟨A3, n3, c3, rfl, own3, hb⟩; (repeat (first | replace hb := below_undrew hb | replace hb := below_undrewN hb)); replace a0 := cell_keep a0 la hb; replace a1 := cell_keep a1 la hb; replace a2 := cell_keep a2 la hb; replace l0 := cell_keep l0 ll hb; replace l1 := cell_keep l1 ll hb; replace q0 := cell_keep q0 lt hb; have HRO := Lib.hid (HROWS.out.keep hb); have HGO := Lib.hid (HGW.out.trans (grown_of_below hb (some lb))); have HR3 := Lib.hid own3.rd; have HA3 := Lib.hid (show ∀ q, A3 = some q → q.block < wv.heap.size ∧ q.block ≠ tb ∧ q.block ≠ vb ∧ q.block ≠ lb from fun q hq => (by have h1 := row_low own3 q.block (by rw [hq]; rfl); have h2 : wr.heap.size ≤ q.block := h1.1; have h3 := lt; have h4 := HGW.out.size; have h5 := lt_of_at9 HVc.out; have h6 := lt_of_at9 HLc.out; omega)); clear own3 hb)
      (try go_wp2_with fail)
      obtain ⟨cur5, hcur5, hsz5⟩ : ∃ cur : Array Value, wv.heap[lb]? = some (.cells cur 22 (0, 0)) ∧ cur.size = N := HRO.out.1
      have qy : wv.cell? ⟨lb, y2, none⟩ = some cur5[y2] := by rw [cell_of_row _ _ _ _ _ _ hcur5]; exact Array.getElem?_eq_getElem (by omega)
      have qf : wv.frozen? ⟨lb, y2, none⟩ = false := frozen_of_row _ _ _ _ _ hcur5
      refine hK.out _ _ ?_ (fun hHeld => ?_)
      · (try dsimp only)
        (try dsimp only)
        first | exact ⟨a0, a1, a2, l0, l1, q0⟩ | exact ⟨(grown_set _ _ _ _).cell a0 (by simp; omega), (grown_set _ _ _ _).cell a1 (by simp; omega), (grown_set _ _ _ _).cell a2 (by simp; omega), (grown_set _ _ _ _).cell l0 (by simp; omega), (grown_set _ _ _ _).cell l1 (by simp; omega), (grown_set _ _ _ _).cell q0 (by simp; omega)⟩
      clear hK K
      (try simp only [Act.put, List.setIfInBounds_toArray, List.set_cons_zero, List.set_cons_succ])
      refine wpAnyH_take (i := 9) (oi := ⟨_, _, _, _, _, _⟩) (v := ?_) rfl (by kernel_rfl) (by kernel_rfl) (by kernel_rfl) (fun _ _ _ h => h) (Or.inl ⟨by rfl, ?_⟩) (by assumption) ?_
      rotate_left
      · intro w hSw
        (try dsimp only at hSw)
        obtain ⟨hSa, hSb, hSc, hSd, hSe, hSf⟩ := hSw
        go_simp
        (try with_reducible rfl)
      (try simp only [Act.put, List.setIfInBounds_toArray, List.set_cons_zero, List.set_cons_succ])
      refine wpAnyH_ready (rs := [10]) (by kernel_rfl) (by simp) ?_
      refine AllReadyH.cons (o := ⟨_, _, _, _, _, _⟩) rfl (fun K hK => ?_) AllReadyH.nil
      go_simp
      skip
      refine hK.out _ _ ?_ (fun hHeld => ?_)
      · (try dsimp only)
        (try dsimp only)
        first | exact ⟨a0, a1, a2, l0, l1, q0⟩ | exact ⟨(grown_set _ _ _ _).cell a0 (by simp; omega), (grown_set _ _ _ _).cell a1 (by simp; omega), (grown_set _ _ _ _).cell a2 (by simp; omega), (grown_set _ _ _ _).cell l0 (by simp; omega), (grown_set _ _ _ _).cell l1 (by simp; omega), (grown_set _ _ _ _).cell q0 (by simp; omega)⟩
      clear hK K
      (try simp only [Act.put, List.setIfInBounds_toArray, List.set_cons_zero, List.set_cons_succ])
      refine wpAnyH_done (by kernel_rfl) ?_ _
      clear hHeld
      have HPU := Lib.hid (show RowsAt (wv.setCell ⟨lb, y2, none⟩ (.slice A3 n3 c3)) lb tb vb N (leapsL W H xs a b) ((cellsL W H xs).take (j + 1)) from by
        rw [List.take_add_one, HY.out]
        exact HRO.out.push hy2 HR3.out HA3.out HNI.out)
      have HGU := Lib.hid (HGO.out.trans (grown_set wv lb y2 (.slice A3 n3 c3)))
      go_wp2_with fail
      go_roundw
      case rel => exact ⟨j + 1, by omega, by go_num, HPU.out, HGU.out⟩
      case measure => simp [intOf]; omega
    · obtain rfl : j = nC := by omega
      have HROWS := Lib.hid (show RowsAt wr lb tb vb N (leapsL W H xs a b) (cellsL W H xs) from by
        have h := hrows
        rw [List.take_of_length_le (by have := HCN.out; omega)] at h
        exact h)
      have HTR := Lib.hid htr
      have HVR := Lib.hid ((hgw.block vb (lt_of_at9 HVc.out) (by have := hlv; simp; omega)).trans HVc.out)
      have HBW := Lib.hid hbw
      have a0 : wr.cell? ⟨w.heap.size, 0, none⟩ = some (.int .i64 W) := by rw [cell_of_row _ _ _ _ _ _ hbd]; rfl
      have a1 : wr.cell? ⟨w.heap.size, 1, none⟩ = some (.int .i64 H) := by rw [cell_of_row _ _ _ _ _ _ hbd]; rfl
      have a2 : wr.cell? ⟨w.heap.size, 2, none⟩ = some (.slice A n c) := by rw [cell_of_row _ _ _ _ _ _ hbd]; rfl
      have RZ := Lib.hid (R.out.keep hbw)
      clear hrows hgw hrc hbd hld htr hbw
      go_wp2_with fail
      refine (boCells_any W H A n c xs _ RZ.out HNN.out).mono ?_
      rintro e wz ⟨AZ, nZ, cZ, rfl, ownZ, hbz⟩
      have hnz : nZ = m + 1 := by have := ownZ.len; omega
      subst hnz
      have HRZ := Lib.hid (HROWS.out.keep hbz)
      have HTZ := Lib.hid ((hbz.block tb (lt_of_at9 HTR.out)).trans HTR.out)
      have HVZ := Lib.hid ((hbz.block vb (lt_of_at9 HVR.out)).trans HVR.out)
      have HBZ := Lib.hid (below_next HBW.out hbz)
      have t3 : wz.cell? ⟨tb, 3, none⟩ = some (.int .i64 0) := by rw [cell_of_row _ _ _ _ _ _ HTZ.out]; rfl
      have t3f : wz.frozen? ⟨tb, 3, none⟩ = false := frozen_of_row _ _ _ _ _ HTZ.out
      clear ownZ hbz a0 a1 a2
      go_wp2_with fail
      obtain ⟨S, hS⟩ : ∃ S, S = wz.setCell ⟨tb, 3, none⟩ (.int .i64 ((m : Int) + 1)) := ⟨_, rfl⟩
      have hgS : wz.grownBy S (some tb) := by rw [hS]; exact grown_set _ _ _ _
      have hzs : wz.heap.size ≤ S.heap.size := hgS.size
      have htz := lt_of_at9 HTZ.out
      have hvz := lt_of_at9 HVZ.out
      obtain ⟨⟨curz, hcz, hczs⟩, hrz⟩ := HRZ.out
      have hlz := lt_of_at9 hcz
      have hstS : S.heap[tb]? = some (.cells #[.slice (some ⟨lb, 0, none⟩) N N, .slice (some ⟨vb, 0, none⟩) N N, .slice none 0 0, .int .i64 ((m + 1 : Nat) : Int), .bool false, .bool fi, .int .i64 ((0 : Nat) : Int), .slice none 0 0] 51 (0, 0)) := by
        rw [hS, heap_set _ HTZ.out]; rfl
      have hnl : ∀ q, (leapsL W H xs a b q).Nodup := fun q => ((cellsL_rise W H xs).imp (fun h => by omega)).filter _
      have hSR : SrAt S wz.heap.size tb lb vb N (leapsL W H xs a b) (cellsL W H xs) [] none 0 0 (m + 1) false fi 0 none 0 0 := by
        refine ⟨hstS, ?_, fun z hz => ?_, ⟨htz, hvz, hlz, by omega, by omega, fun e => hlv e.symm, hzs⟩, ⟨fun y hy => ?_, hN1, hN64, fun q y hy => (List.mem_filter.1 hy).1, (cellsL_rise W H xs).imp (fun h => by omega)⟩⟩
        · rw [(hgS.block vb hvz (by simp; omega)).trans HVZ.out]
          congr 3
          exact (List.eq_replicate_iff.2 ⟨by simp [boolRow], fun v hv => by simp [boolRow] at hv; exact hv.2.symm⟩).symm
        · obtain ⟨A', n', c', h1, h2, h3⟩ := hrz z hz
          exact ⟨A', n', c', hgS.cell h1 (by simp; omega), h2.other hgS (fun q hq => by have := (h3 q hq).2.1; simpa using this), fun q hq => ⟨(h3 q hq).1, (h3 q hq).2.1, (h3 q hq).2.2.1⟩⟩
        · have := (hasB_iff.1 (cellsL_mem.1 hy)).1; rw [hWH] at this; exact this
      have hBS : Below w.heap.size w wz := (B0.out.trans (HBZ.out.mono (by omega)))
      have hB2 : Below w.heap.size w S := hBS.grown hgS hBS.size (fun q e => by injection e with e; omega)
      have HZL := Lib.hid hBS.size
      rw [← hS]
      clear hS
      refine (go1_any wz.heap.size tb lb vb N (leapsL W H xs a b) (cellsL W H xs) fi hnl m S [] [] none 0 0 0 none 0 0 x hSR (OwnI.none_ _ _ _) (OwnI.none_ _ _ _) (fun q hq => by cases hq) (walk_one _) (fun y hy => by rw [List.mem_singleton.1 hy]; exact cellsL_mem.2 hx) (by rw [hm]; simp; omega) (fun _ => rfl) (by have := fac_19 (show m ≤ 19 by omega); omega) (by omega)).mono ?_
      rintro e wf ⟨A', c', F, nf, cf, ⟨v, rfl⟩, hsr, hown, hfo, hap, hkp⟩
      have HSR := Lib.hid hsr; have HFO := Lib.hid hfo; have HKP := Lib.hid hkp; have HB2 := Lib.hid hB2
      clear hsr hown hfo hap hkp hBS hB2 hgS hstS hSR
      go_wp2_with fail
      go_ret
      refine ⟨tb, lb, vb, N, wz.heap.size, A', c', F, nf, cf, rfl, HSR.out, HFO.out, HZL.out, ?_⟩
      exact ⟨HKP.out.os.trans HB2.out.os, HKP.out.tape.trans HB2.out.tape, HKP.out.output.trans HB2.out.output, Nat.le_trans HB2.out.size HKP.out.size, fun q hq => (HKP.out.block q (by have := HZL.out; omega) (by omega) (by omega)).trans (HB2.out.block q hq)⟩
end Go.Proofs.YtnmmgalidkambaaGreatDoor
