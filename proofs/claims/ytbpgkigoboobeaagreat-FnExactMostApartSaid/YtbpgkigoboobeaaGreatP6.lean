/-
  A row of slices as an answer: what keeps it, how it is compared, marked, held.
  Contracts: rows of slices compared, marked, held.
-/
import Derived.Test.YtbpgkigoboobeaaGreatP0
import Derived.Test.YtbpgkigoboobeaaGreatLaw0
import Derived.Deep.RegionHeld3
namespace Go.Proofs.YtbpgkigoboobeaaGreat
open Go.RowKit

/-- A row of slices, all of it in the blocks from lo to hi. -/
def OwnSS (w : World) (lo hi : Nat) (A : Option Addr) (n c : Nat) (ps : List (List Int)) : Prop := PartsAt w lo hi A n c ps ∧ ∀ a, A = some a → a.block < hi
theorem own_lo {w : World} {lo : Nat} {E : TypeId} {k : Nat} {a : Addr} {n c : Nat} {xs : List Value} (h : w.ownsRow lo E k (.slice (some a) n c) n xs) : lo ≤ a.block ∧ a.block < w.heap.size := by
  have := World.ownsRow.lt h a.block rfl; exact this
theorem OwnSS.of {w : World} {lo top : Nat} {A : Option Addr} {n c : Nat} {ps : List (List Int)} (h : PartsAt w lo top A n c ps) : OwnSS w lo w.heap.size A n c ps := by
  refine ⟨?_, h.lt⟩
  obtain ⟨vs, h1, h2, h3, h4, _⟩ := h
  refine ⟨vs, h1, h2, h3, h4, fun i v hv x hx => ?_⟩
  obtain ⟨p, hp⟩ : ∃ p, ps[i]? = some p := ⟨_, List.getElem?_eq_getElem (by have := (List.getElem?_eq_some_iff.1 hv).1; have := h1.len; omega)⟩
  have h5 := h3 i v p hv hp
  rw [hx] at h5
  exact (own_lo h5).2
theorem OwnSS.keep {w w' : World} {lo hi : Nat} {A : Option Addr} {n c : Nat} {ps : List (List Int)} (h : OwnSS w lo hi A n c ps) (hb : Below w.heap.size w w') : OwnSS w' lo hi A n c ps := ⟨h.1.keep hb, h.2⟩
theorem OwnSS.drew1 {w : World} {lo hi : Nat} {A : Option Addr} {n c : Nat} {ps : List (List Int)} (h : OwnSS w lo hi A n c ps) : OwnSS w.drew lo hi A n c ps := h
theorem OwnSS.len {w : World} {lo hi : Nat} {A : Option Addr} {n c : Nat} {ps : List (List Int)} (h : OwnSS w lo hi A n c ps) : ps.length = n := h.1.len
/-- Kept as long as no block from lo to hi is written. -/
theorem OwnSS.blocks {w w' : World} {lo hi : Nat} {A : Option Addr} {n c : Nat} {ps : List (List Int)} (h : OwnSS w lo hi A n c ps) (hk : ∀ i, i < w.heap.size → lo ≤ i → i < hi → w'.heap[i]? = w.heap[i]?) : OwnSS w' lo hi A n c ps := by
  obtain ⟨⟨vs, h1, h2, h3, h4, h5⟩, h6⟩ := h
  have key : ∀ {E : TypeId} {k : Nat} {v : Option Addr} {n c : Nat} {xs : List Value}, w.ownsRow lo E k (.slice v n c) n xs → (∀ x, v = some x → x.block < hi) → w'.ownsRow lo E k (.slice v n c) n xs := by
    intro E k v n c xs h hv
    refine ⟨h.1, ?_⟩
    rcases h.2 with hn | ⟨g, cap, cur, he, hlo, hg, r⟩
    · exact .inl hn
    · have hgv : g < hi := by
        injection he with he
        exact hv _ he
      exact .inr ⟨g, cap, cur, he, hlo, (hk g (Array.getElem?_eq_some_iff.1 hg).1 hlo hgv).trans hg, r⟩
  exact ⟨⟨vs, ⟨h1.1, key h1.2 h6⟩, h2, fun i v p hv hp => key (h3 i v p hv hp) (h5 i v hv), h4, h5⟩, h6⟩
theorem OwnSS.other {w w' : World} {lo hi : Nat} {A : Option Addr} {n c : Nat} {ps : List (List Int)} {row : Option Nat} (h : OwnSS w lo hi A n c ps) (hg : w.grownBy w' row) (hne : ∀ g, lo ≤ g → g < hi → some g ≠ row) : OwnSS w' lo hi A n c ps :=
  h.blocks (fun i hi1 h1 h2 => hg.block i hi1 (hne i h1 h2))
/-- Whatever was written lies in the blocks from lo to hi. -/
structure Within (lo hi : Nat) (w w' : World) : Prop where
  os : w'.os = w.os
  tape : w'.tape = w.tape
  output : w'.output = w.output
  size : w.heap.size ≤ w'.heap.size
  block : ∀ i, i < w.heap.size → (i < lo ∨ hi ≤ i) → w'.heap[i]? = w.heap[i]?
theorem cell_of_block {w w' : World} {b i : Nat} (h : w'.heap[b]? = w.heap[b]?) : w'.cell? ⟨b, i, none⟩ = w.cell? ⟨b, i, none⟩ := by
  unfold World.cell?
  simp only [h]
theorem cell_in {w w' : World} {lo hi b i : Nat} {v : Value} (h : w.cell? ⟨b, i, none⟩ = some v) (hg : Within lo hi w w') (hl : b < w.heap.size) (ho : b < lo ∨ hi ≤ b) : w'.cell? ⟨b, i, none⟩ = some v := (cell_of_block (hg.block b hl ho)).trans h
theorem OwnI.within {E : TypeId} {w w' : World} {lo0 lo hi : Nat} {A : Option Addr} {n c : Nat} {xs : List Int} (h : OwnI E w lo0 A n c xs) (hg : Within lo hi w w') (ho : ∀ a, A = some a → a.block < lo ∨ hi ≤ a.block) : OwnI E w' lo0 A n c xs := by
  refine ⟨h.1, ?_⟩
  rcases h.2 with hn | ⟨g, cap, cur, hv, hlo, hgg, r⟩
  · exact .inl hn
  · refine .inr ⟨g, cap, cur, hv, hlo, ?_, r⟩
    injection hv with h1
    exact (hg.block g (Array.getElem?_eq_some_iff.1 hgg).1 (ho _ h1)).trans hgg
theorem OwnSS.within {w w' : World} {lo0 hi0 lo hi : Nat} {A : Option Addr} {n c : Nat} {ps : List (List Int)} (h : OwnSS w lo0 hi0 A n c ps) (hg : Within lo hi w w') (ho : hi0 ≤ lo ∨ hi ≤ lo0) : OwnSS w' lo0 hi0 A n c ps :=
  h.blocks (fun i hi1 h1 h2 => hg.block i hi1 (by omega))
theorem below_within {a w w' : World} {lo hi : Nat} (h : Below a.heap.size a w) (hg : Within lo hi w w') (hl : a.heap.size ≤ lo) : Below a.heap.size a w' :=
  ⟨hg.os.trans h.os, hg.tape.trans h.tape, hg.output.trans h.output, Nat.le_trans h.size hg.size, fun i hi => (hg.block i (Nat.lt_of_lt_of_le hi h.size) (by omega)).trans (h.block i hi)⟩
theorem within_refl (lo hi : Nat) (w : World) : Within lo hi w w := ⟨rfl, rfl, rfl, Nat.le_refl _, fun _ _ _ => rfl⟩
theorem within_drew {lo hi : Nat} {w w' : World} (h : Within lo hi w w') : Within lo hi w w'.drew := ⟨h.os, h.tape, h.output, h.size, h.block⟩
theorem within_grown {lo hi : Nat} {a b c : World} {A : Option Addr} (h : Within lo hi a b) (hg : b.grownBy c (rowOf A)) (hA : ∀ x, A = some x → lo ≤ x.block ∧ x.block < hi) : Within lo hi a c :=
  ⟨hg.os.trans h.os, hg.tape.trans h.tape, hg.output.trans h.output, Nat.le_trans h.size hg.size, fun i hi1 ho => (hg.block i (Nat.lt_of_lt_of_le hi1 h.size) (by
    rcases A with _ | x
    · simp [rowOf]
    · have := hA x rfl
      simp [rowOf]; omega)).trans (h.block i hi1 ho)⟩
/-- Part i of the row: its slice, its list; and the row when it is written over. -/
theorem OwnSS.at_ {w : World} {lo hi : Nat} {A : Option Addr} {n c : Nat} {ps : List (List Int)} (h : OwnSS w lo hi A n c ps) {i : Nat} (hi1 : i < n) :
    ∃ g V m k p, A = some ⟨g, 0, none⟩ ∧ g < w.heap.size ∧ w.cell? ⟨g, i, none⟩ = some (.slice V m k) ∧ ps[i]? = some p ∧ OwnI 3 w lo V m k p ∧ (∀ x, V = some x → lo ≤ x.block ∧ x.block < hi) ∧
      ∀ w' p', OwnI 3 w' lo V m k p' → w.grownBy w' (rowOf V) → OwnSS w' lo hi A n c (ps.set i p') := by
  obtain ⟨⟨vs, h1, h2, h3, h4, h5⟩, h6⟩ := h
  obtain ⟨g, rfl, hg1, hg2⟩ := h1.some_ hi1
  have hvl := h1.len
  obtain ⟨⟨V, m, k⟩, hv⟩ : ∃ v, vs[i]? = some v := ⟨_, List.getElem?_eq_getElem (by omega)⟩
  have hp : ps[i]? = some ps[i] := List.getElem?_eq_getElem (by omega)
  have ho := h3 i _ _ hv hp
  have hc := OwnK.cell (enc := encS) (k := 1) (j := 0) (fun _ => rfl) h1 hv (show (encS (V, m, k))[0]? = some (.slice V m k) from rfl)
  rw [show i * 1 + 0 = i by omega] at hc
  have hb : ∀ x, V = some x → lo ≤ x.block ∧ x.block < hi := fun x hx => by
    refine ⟨?_, h5 i _ hv x hx⟩
    have ho' := ho
    rw [show (V, m, k).1 = some x from hx] at ho'
    exact (own_lo ho').1
  refine ⟨g, V, m, k, ps[i], rfl, hg2, hc, hp, ho, hb, fun w' p' hw hgr => ⟨⟨vs, h1.other hgr (fun a ha => ?_), by rw [List.length_set]; exact h2, fun j v q hv' hq => ?_, h4, h5⟩, h6⟩⟩
  · injection ha with ha
    subst ha
    rcases V with _ | x
    · simp [rowOf]
    · have := rows_apart (by decide : 3 ≠ 22) ho h1.2
      simp [rowOf]; exact fun h => this h.symm
  · rw [List.getElem?_set] at hq
    by_cases e : i = j
    · subst e
      rw [if_pos rfl, if_pos (by omega)] at hq
      injection hq with hq
      rw [hv] at hv'
      injection hv' with hv'
      rw [← hv', ← hq]
      exact hw
    · rw [if_neg e] at hq
      have h7 := h3 j v q hv' hq
      refine h7.other hgr (fun a ha => ?_)
      rcases V with _ | x
      · simp [rowOf]
      · have : a.block ≠ x.block := by
          rcases Nat.lt_or_gt_of_ne e with h8 | h8
          · have := h4 i j _ _ h8 hv hv' x a rfl ha; omega
          · have := h4 j i _ _ h8 hv' hv a x ha rfl; omega
        simpa [rowOf] using this

end Go.Proofs.YtbpgkigoboobeaaGreat

namespace Go.Proofs.YtbpgkigoboobeaaGreat
open Go.RowKit

set_option maxRecDepth 100000 in
set_option maxHeartbeats 2000000 in
theorem eqIntSS_any (lo hi lo2 hi2 : Nat) (A1 A2 : Option Addr) (n1 n2 cc1 cc2 : Nat) (ps : List (List Int)) (w : World) (h1 : OwnSS w lo hi A1 n1 cc1 ps) (h2 : OwnSS w lo2 hi2 A2 n2 cc2 ps) (hn : n1 ≤ 5000) :
    Calls Tryz.prog 11 #[.slice A1 n1 cc1, .slice A2 n2 cc2] w fun e w' => e = .returned (.bool true) ∧ Below w.heap.size w w' := by
  obtain rfl : n2 = n1 := by rw [← h1.len, ← h2.len]
  have H1 := Lib.hid h1; have H2 := Lib.hid h2
  clear h1 h2
  go_enter Tryz.func11, Tryz.ntmps11
  go_wp2
  go_loopw [5] (fun i wr => ∃ k : Nat, k ≤ n2 ∧ i = .int .i64 k ∧ Below w.heap.size w wr) (fun i _ => n2 - (intOf i).toNat)
  case atStart => exact ⟨0, by omega, rfl, Below.refl _ _⟩
  case round =>
    obtain ⟨k, hk, rfl, hbw⟩ := hrel
    by_cases hlt : k < n2
    · obtain ⟨g1, V1, m1, k1, p, rfl, hl1, c1, hp1, ho1, _, _⟩ := (H1.out.keep hbw).at_ hlt
      obtain ⟨g2, V2, m2, k2, p2, rfl, hl2, c2, hp2, ho2, _, _⟩ := (H2.out.keep hbw).at_ hlt
      obtain rfl : p2 = p := by rw [hp1] at hp2; injection hp2 with hp2; exact hp2.symm
      have R1 := Lib.hid ho1.rd; have R2 := Lib.hid ho2.rd
      have HB := Lib.hid hbw
      have k0 : (0 : Int) ≤ (k : Int) := by omega
      have k9 : (k : Int) < (n2 : Int) := by omega
      clear hp1 hp2 ho1 ho2 hbw
      go_wp2_with fail
      refine wp_region_held_drew (S := fun w' => w'.cell? ⟨g1, k, none⟩ = some (.slice V1 m1 k1) ∧ w'.cell? ⟨g2, k, none⟩ = some (.slice V2 m2 k2)) (by kernel_rfl) ?_ (fun hHeld => ?_)
      · (try dsimp only)
        exact ⟨c1, c2⟩
      refine wpAnyH_take (i := 0) (oi := ⟨_, _, _, _, _, _⟩) (v := ?_) rfl (by kernel_rfl) (by kernel_rfl) (by kernel_rfl) (fun _ _ _ h => h) (Or.inl ⟨by rfl, ?_⟩) (by assumption) ?_
      rotate_left
      · intro w hSw
        (try dsimp only at hSw)
        go_simp
        (try with_reducible rfl)
      (try simp only [Act.put, List.setIfInBounds_toArray, List.set_cons_zero, List.set_cons_succ])
      refine wpAnyH_take (i := 1) (oi := ⟨_, _, _, _, _, _⟩) (v := ?_) rfl (by kernel_rfl) (by kernel_rfl) (by kernel_rfl) (fun _ _ _ h => h) (Or.inl ⟨by rfl, ?_⟩) (by assumption) ?_
      rotate_left
      · intro w hSw
        (try dsimp only at hSw)
        go_simp
        (try with_reducible rfl)
      (try simp only [Act.put, List.setIfInBounds_toArray, List.set_cons_zero, List.set_cons_succ])
      refine wpAnyH_take (i := 2) (oi := ⟨_, _, _, _, _, _⟩) (v := ?_) rfl (by kernel_rfl) (by kernel_rfl) (by kernel_rfl) (fun _ _ _ h => h) (Or.inl ⟨by rfl, ?_⟩) (by assumption) ?_
      rotate_left
      · intro w hSw
        (try dsimp only at hSw)
        go_simp
        (try with_reducible rfl)
      (try simp only [Act.put, List.setIfInBounds_toArray, List.set_cons_zero, List.set_cons_succ])
      refine wpAnyH_take (i := 3) (oi := ⟨_, _, _, _, _, _⟩) (v := ?_) rfl (by kernel_rfl) (by kernel_rfl) (by kernel_rfl) (fun _ _ _ h => h) (Or.inl ⟨by rfl, ?_⟩) (by assumption) ?_
      rotate_left
      · intro w hSw
        (try dsimp only at hSw)
        go_simp
        (try with_reducible rfl)
      (try simp only [Act.put, List.setIfInBounds_toArray, List.set_cons_zero, List.set_cons_succ])
      refine wpAnyH_take (i := 4) (oi := ⟨_, _, _, _, _, _⟩) (v := ?_) rfl (by kernel_rfl) (by kernel_rfl) (by kernel_rfl) (fun _ _ _ h => h) (Or.inl ⟨by rfl, ?_⟩) (by assumption) ?_
      rotate_left
      · intro w hSw
        (try dsimp only at hSw)
        go_simp
        (try with_reducible rfl)
      (try simp only [Act.put, List.setIfInBounds_toArray, List.set_cons_zero, List.set_cons_succ])
      refine wpAnyH_take (i := 5) (oi := ⟨_, _, _, _, _, _⟩) (v := ?_) rfl (by kernel_rfl) (by kernel_rfl) (by kernel_rfl) (fun _ _ _ h => h) (Or.inl ⟨by rfl, ?_⟩) (by assumption) ?_
      rotate_left
      · intro w hSw
        (try dsimp only at hSw)
        go_simp
        (try with_reducible rfl)
      (try simp only [Act.put, List.setIfInBounds_toArray, List.set_cons_zero, List.set_cons_succ])
      refine wpAnyH_take (i := 6) (oi := ⟨_, _, _, _, _, _⟩) (v := ?_) rfl (by kernel_rfl) (by kernel_rfl) (by kernel_rfl) (fun _ _ _ h => h) (Or.inl ⟨by rfl, ?_⟩) (by assumption) ?_
      rotate_left
      · intro w hSw
        (try dsimp only at hSw)
        go_simp
        (try with_reducible rfl)
      (try simp only [Act.put, List.setIfInBounds_toArray, List.set_cons_zero, List.set_cons_succ])
      refine wpAnyH_take (i := 7) (oi := ⟨_, _, _, _, _, _⟩) (v := ?_) rfl (by kernel_rfl) (by kernel_rfl) (by kernel_rfl) (fun _ _ _ h => h) (Or.inl ⟨by rfl, ?_⟩) (by assumption) ?_
      rotate_left
      · intro w hSw
        (try dsimp only at hSw)
        go_simp
        (try with_reducible rfl)
      (try simp only [Act.put, List.setIfInBounds_toArray, List.set_cons_zero, List.set_cons_succ])
      refine wpAnyH_ready (rs := [8]) (by kernel_rfl) (by simp) ?_
      refine AllReadyH.cons (o := ⟨_, _, _, _, _, _⟩) rfl (fun K hK => ?_) AllReadyH.nil
      go_simp
      (go_at_call 31; refine (eqIntS_any V1 V2 m1 m2 k1 k2 p2 p2 _ ?_ ?_).mono ?_; (exact R1.out); (exact R2.out); simp only [decide_true]; rintro e wv ⟨rfl, hb⟩; (repeat (first | replace hb := below_undrew hb | replace hb := below_undrewN hb)); replace c1 := cell_keep c1 hl1 hb; replace c2 := cell_keep c2 hl2 hb; replace HB := Lib.hid (below_next HB.out hb); clear hb)
      (try go_wp2_with fail)
      refine hK.out _ _ ?_ (fun hHeld => ?_)
      · (try dsimp only)
        exact ⟨c1, c2⟩
      clear hK K
      (try simp only [Act.put, List.setIfInBounds_toArray, List.set_cons_zero, List.set_cons_succ])
      refine wpAnyH_take (i := 9) (oi := ⟨_, _, _, _, _, _⟩) (v := ?_) rfl (by kernel_rfl) (by kernel_rfl) (by kernel_rfl) (fun _ _ _ h => h) (Or.inl ⟨by rfl, ?_⟩) (by assumption) ?_
      rotate_left
      · intro w hSw
        (try dsimp only at hSw)
        go_simp
        (try with_reducible rfl)
      (try simp only [Act.put, List.setIfInBounds_toArray, List.set_cons_zero, List.set_cons_succ])
      refine wpAnyH_done (by kernel_rfl) ?_ _
      obtain ⟨wd, hwd⟩ : ∃ wd, wd = wv.drew := ⟨_, rfl⟩
      have HB2 := Lib.hid (show Below w.heap.size w wd by rw [hwd]; exact ⟨HB.out.os, HB.out.tape, HB.out.output, HB.out.size, HB.out.block⟩)
      (try rw [← hwd])
      clear hwd c1 c2
      go_wp2
      go_roundw
      case rel => first | exact ⟨k + 1, by omega, by go_num, HB2.out⟩ | exact ⟨k + 1, by omega, by go_num, HB.out⟩
      case measure => simp [intOf]; omega
    · obtain rfl : k = n2 := by omega
      go_wp2
      go_ret
      exact ⟨rfl, hbw⟩

/-- The lists behind i marks, and the next mark. -/
def markTo (ps : List (List Int)) (k0 : Int) : Nat → List (List Int) × Int
  | 0 => (ps, k0)
  | i + 1 => ((markTo ps k0 i).1.set i (marks (markTo ps k0 i).2 (ps.getD i []).length), (markTo ps k0 i).2 + (ps.getD i []).length)
theorem markTo_len (ps : List (List Int)) (k0 : Int) : ∀ i, (markTo ps k0 i).1.length = ps.length
  | 0 => rfl
  | i + 1 => by rw [markTo, List.length_set]; exact markTo_len ps k0 i
theorem markTo_later (ps : List (List Int)) (k0 : Int) : ∀ i j, i ≤ j → (markTo ps k0 i).1[j]? = ps[j]?
  | 0, _, _ => rfl
  | i + 1, j, h => by rw [markTo]; simp only; rw [List.getElem?_set_ne (by omega)]; exact markTo_later ps k0 i j (by omega)
theorem markTo_done (ps : List (List Int)) (k0 : Int) : ∀ i j, j < i → j < ps.length → (markTo ps k0 i).1[j]? = some (marks (markTo ps k0 j).2 (ps.getD j []).length)
  | 0, _, h, _ => absurd h (by omega)
  | i + 1, j, h, hj => by
    rw [markTo]
    simp only
    by_cases e : i = j
    · subst e; rw [List.getElem?_set, if_pos rfl, if_pos (by rw [markTo_len]; exact hj)]
    · rw [List.getElem?_set_ne e]; exact markTo_done ps k0 i j (by omega) hj
theorem markTo_bd {ps : List (List Int)} {k0 : Int} (hs : ∀ p ∈ ps, p.length ≤ 64) : ∀ i : Nat, k0 ≤ (markTo ps k0 i).2 ∧ (markTo ps k0 i).2 ≤ k0 + 64 * (i : Int)
  | 0 => by simp [markTo]
  | i + 1 => by
    have ih := markTo_bd (k0 := k0) hs i
    rw [markTo]
    simp only
    have hl : (ps.getD i []).length ≤ 64 := by
      rw [List.getD_eq_getElem?_getD]
      cases h : ps[i]? with
      | none => simp
      | some p => exact hs p (List.mem_of_getElem? h)
    push_cast
    omega
theorem getD_of {ps : List (List Int)} {i : Nat} {p : List Int} (h : ps[i]? = some p) : ps.getD i [] = p := by rw [List.getD_eq_getElem?_getD, h]; rfl

set_option maxRecDepth 100000 in
set_option maxHeartbeats 2000000 in
theorem markIntSS_any (lo hi : Nat) (A : Option Addr) (n c : Nat) (ps : List (List Int)) (k0 : Int) (w : World) (h : OwnSS w lo hi A n c ps) (hs : ∀ p ∈ ps, p.length ≤ 64) (hn : n ≤ 5000) (h0 : 0 ≤ k0 ∧ k0 ≤ 1000) :
    Calls Tryz.prog 14 #[.slice A n c, .int .i64 k0] w fun e w' => e = .returned (.int .i64 (markTo ps k0 n).2) ∧ OwnSS w' lo hi A n c (markTo ps k0 n).1 ∧ Within lo hi w w' := by
  have H := Lib.hid h; have HS := Lib.hid hs; have HLEN := Lib.hid h.len
  clear h hs
  go_enter Tryz.func14, Tryz.ntmps14
  go_wp2
  go_loopw [1, 5] (fun v i wr => ∃ k : Nat, k ≤ n ∧ i = .int .i64 k ∧ v = .int .i64 (markTo ps k0 k).2 ∧ OwnSS wr lo hi A n c (markTo ps k0 k).1 ∧ Within lo hi w wr) (fun _ i _ => n - (intOf i).toNat)
  case atStart => exact ⟨0, by omega, rfl, rfl, H.out, within_refl _ _ _⟩
  case round =>
    obtain ⟨k, hk, rfl, rfl, how, hwi⟩ := hrel
    have hbd := markTo_bd (k0 := k0) HS.out k
    have HW := Lib.hid hwi
    by_cases hlt : k < n
    · obtain ⟨g1, V, m, kk, p, rfl, hl1, c1, hp1, ho1, hv1, hup⟩ := how.at_ hlt
      have hpk : ps[k]? = some p := by rw [markTo_later ps k0 k k (Nat.le_refl _)] at hp1; exact hp1
      have hm : p.length = m := ho1.len
      have hm64 : m ≤ 64 := by rw [← hm]; exact HS.out p (List.mem_of_getElem? hpk)
      have e1 : markTo ps k0 (k + 1) = ((markTo ps k0 k).1.set k (marks (markTo ps k0 k).2 m), (markTo ps k0 k).2 + m) := by rw [markTo, getD_of hpk, hm]
      have E1 := Lib.hid e1; have HU := Lib.hid hup; have HV := Lib.hid hv1; have HO := Lib.hid ho1
      obtain ⟨mk, hmk⟩ : ∃ mk, mk = (markTo ps k0 k).2 := ⟨_, rfl⟩
      have HMK := Lib.hid hmk
      rw [← hmk] at hbd ⊢
      have k00 : (0 : Int) ≤ (k : Int) := by omega
      have k99 : (k : Int) < (n : Int) := by omega
      clear how hp1 ho1 hv1 hup hpk hm e1 hmk hwi
      go_wp2_with fail
      refine (markIntS_any V m kk lo mk p _ HO.out (by omega) (by omega)).mono ?_
      rintro e wv ⟨rfl, HO', hg⟩
      have HO2 := Lib.hid (HU.out _ _ HO' hg)
      have HW2 := Lib.hid (within_grown HW.out hg HV.out)
      clear HO' hg c1
      go_wp2
      go_roundw
      case rel => exact ⟨k + 1, by omega, by go_num, by rw [E1.out, HMK.out], by rw [E1.out, ← HMK.out]; exact HO2.out, HW2.out⟩
      case measure => simp [intOf]; omega
    · obtain rfl : k = n := by omega
      go_wp2
      go_ret
      exact ⟨rfl, how, HW.out⟩

set_option maxRecDepth 100000 in
set_option maxHeartbeats 2000000 in
theorem heldIntSS_any (lo hi : Nat) (A : Option Addr) (n c : Nat) (ps : List (List Int)) (k0 : Int) (w : World) (h : OwnSS w lo hi A n c (markTo ps k0 n).1) (hs : ∀ p ∈ ps, p.length ≤ 64) (hn : n ≤ 5000) (hpn : ps.length = n) (h0 : 0 ≤ k0 ∧ k0 ≤ 1000) :
    Calls Tryz.prog 15 #[.slice A n c, .int .i64 k0] w fun e w' => e = .returned (.int .i64 (markTo ps k0 n).2) ∧ Below w.heap.size w w' := by
  have H := Lib.hid h; have HS := Lib.hid hs; have HPN := Lib.hid hpn
  clear h hs hpn
  go_enter Tryz.func15, Tryz.ntmps15
  go_wp2
  go_loopw [1, 5] (fun v i wr => ∃ k : Nat, k ≤ n ∧ i = .int .i64 k ∧ v = .int .i64 (markTo ps k0 k).2 ∧ Below w.heap.size w wr) (fun _ i _ => n - (intOf i).toNat)
  case atStart => exact ⟨0, by omega, rfl, rfl, Below.refl _ _⟩
  case round =>
    obtain ⟨k, hk, rfl, rfl, hbw⟩ := hrel
    have hbd := markTo_bd (k0 := k0) HS.out k
    have HB := Lib.hid hbw
    by_cases hlt : k < n
    · obtain ⟨g1, V, m, kk, p, rfl, hl1, c1, hp1, ho1, _, _⟩ := (H.out.keep hbw).at_ hlt
      rw [markTo_done ps k0 n k hlt (by rw [HPN.out]; exact hlt)] at hp1
      injection hp1 with hp1
      have hm : (ps.getD k []).length = m := by rw [← ho1.len, ← hp1, marks_length]
      rw [hm] at hp1
      rw [← hp1] at ho1
      have hm64 : m ≤ 64 := by
        rw [← hm, List.getD_eq_getElem?_getD]
        cases h9 : ps[k]? with
        | none => simp
        | some p => exact HS.out p (List.mem_of_getElem? h9)
      have e1 : (markTo ps k0 (k + 1)).2 = (markTo ps k0 k).2 + m := by rw [markTo]; simp only; rw [hm]
      have E1 := Lib.hid e1; have HO := Lib.hid ho1.rd
      obtain ⟨mk, hmk⟩ : ∃ mk, mk = (markTo ps k0 k).2 := ⟨_, rfl⟩
      have HMK := Lib.hid hmk
      rw [← hmk] at hbd HO ⊢
      have k00 : (0 : Int) ≤ (k : Int) := by omega
      have k99 : (k : Int) < (n : Int) := by omega
      clear hp1 ho1 hm e1 hmk hbw
      go_wp2_with fail
      refine (heldIntS_any V m kk mk _ HO.out (by omega) (by omega)).mono ?_
      rintro e wv ⟨rfl, hb⟩
      replace HB := Lib.hid (below_next HB.out hb)
      have hnn : decide (mk + (m : Int) < 0) = false := by simp; omega
      clear hb c1
      go_wp2
      go_roundw
      case rel => exact ⟨k + 1, by omega, by go_num, by rw [E1.out, HMK.out], HB.out⟩
      case measure => simp [intOf]; omega
    · obtain rfl : k = n := by omega
      go_wp2
      go_ret
      exact ⟨rfl, HB.out⟩

end Go.Proofs.YtbpgkigoboobeaaGreat
