/-
  An array of 144 ints, read at an index; distances of both sides.
  Pure: how many routes there are, on a board.
  Pure: the first route.
  Contracts: FirstRoute, the model.
-/
import Derived.Test.YtmmfjmgjkbplpaaT4
import Derived.Test.YtmmfjmgjkbplpaaT1
import Derived.Test.YtmmfjmgjkbplpaaT2
import Derived.Test.YtmmfjmgjkbplpaaCR0
import Derived.Test.YtmmfjmgjkbplpaaCRM
import Derived.Deep.QuietTactic
import Derived.BigQuiet
namespace Go.Proofs.Ytmmfjmgjkbplpaa
open Go.RowKit

theorem run_far (L : List Int) (_hl : L.length = 144) (q : Nat) (hq : q < 144) (v : Int) (hv : L[q]? = some v) (w : World) :
    (Instr.index 64 (.agg (L.map (Value.int .i64)).toArray) (.int .i64 (q : Int))).run Try.prog w = .ok (.int .i64 v) w := by
  have hu := Try.underlying64
  have hz := Try.sizeOf3
  have ha := Try.isAgg3
  simp [Instr.index, run_underlying hu, asIntOf, go_sem]
  rw [if_pos hq, hv]
  rfl

def distL (W H : Int) (xs : List Int) (a b p : Int) : List Int := farL (leapsL W H xs a b) (W * H).toNat p
def distV (W H : Int) (xs : List Int) (a b p q : Int) : Int := (distL W H xs a b p).getD q.toNat (-1)
/-- What holds where there are a leaper, a board and two cells. -/
structure OnFacts (W H : Int) (xs : List Int) (a b : Int) (N : Nat) : Prop where
  g : goodB W H xs = true
  l : leaperB a b = true
  wh : W * H = (N : Int)
  n : 1 ≤ N ∧ N ≤ 64
theorem on_facts {W H a b : Int} {xs : List Int} (h : okTwo W H xs a b = true) : OnFacts W H xs a b (W * H).toNat := by
  simp only [okTwo, Bool.and_eq_true] at h
  obtain ⟨h1, h2, _, _⟩ := goodB_iff.1 h.2
  have := cells_le h1 h2
  exact ⟨h.2, h.1, by omega, by omega⟩
theorem cells_in {W H a b : Int} {xs : List Int} {N : Nat} (h : OnFacts W H xs a b N) : ∀ x ∈ cellsL W H xs, 0 ≤ x ∧ x < 144 := fun x hx => by
  have := (hasB_iff.1 (cellsL_mem.1 hx)).1; have := h.wh; have := h.n; omega
theorem adj_in {W H a b : Int} {xs : List Int} : ∀ x, ∀ y ∈ leapsL W H xs a b x, y ∈ cellsL W H xs := fun _ _ hy => (List.mem_filter.1 hy).1
theorem dist_len {W H a b p : Int} {xs : List Int} {N : Nat} (h : OnFacts W H xs a b N) (hp : hasB W H xs p = true) : (distL W H xs a b p).length = N := by
  have hr := (hasB_iff.1 hp).1
  have e : (W * H).toNat = N := by have := h.wh; omega
  rw [distL, e]
  exact (bfs_ok (adj := leapsL W H xs a b) (N := N) (start := p) (by have := h.wh; omega) (fun c _ x hx => leaps_in h.wh hx) N).len
theorem far64 {W H a b p : Int} {xs : List Int} {N : Nat} (h : OnFacts W H xs a b N) (hp : hasB W H xs p = true) : farL (leapsL W H xs a b) 144 p = distL W H xs a b p ++ List.replicate (144 - N) (-1) := by
  have hr := (hasB_iff.1 hp).1
  have e : (W * H).toNat = N := by have := h.wh; omega
  rw [distL, e, ← far_pad (M := 144 - N) (by have := h.wh; omega) (fun c _ x hx => leaps_in h.wh hx), show N + (144 - N) = 144 by have := h.n; omega]
theorem dist_at {W H a b p : Int} {xs : List Int} {N : Nat} (h : OnFacts W H xs a b N) (hp : hasB W H xs p = true) {qn : Nat} (hq : qn < N) :
    (distL W H xs a b p)[qn]? = some (distV W H xs a b p (qn : Int)) ∧ -1 ≤ distV W H xs a b p (qn : Int) ∧ distV W H xs a b p (qn : Int) ≤ 64 := by
  have hr := (hasB_iff.1 hp).1
  have hlen := dist_len h hp
  have hx : (distL W H xs a b p)[qn]? = some (distL W H xs a b p)[qn] := List.getElem?_eq_getElem (by omega)
  have hv : distV W H xs a b p (qn : Int) = (distL W H xs a b p)[qn] := by rw [distV, Int.toNat_natCast, List.getD_eq_getElem?_getD, hx]; rfl
  rw [hv]
  refine ⟨hx, ?_⟩
  have e : (W * H).toNat = N := by have := h.wh; omega
  have hb := (bfs_ok (adj := leapsL W H xs a b) (N := N) (start := p) (by have := h.wh; omega) (fun c _ x hx => leaps_in h.wh hx) N).lo qn (distL W H xs a b p)[qn] (by rw [← hx, distL, e]; rfl)
  have := h.n; omega

theorem dist_in64 {W H a b p : Int} {xs : List Int} {N : Nat} (h : OnFacts W H xs a b N) (hp : hasB W H xs p = true) : ∀ x ∈ distL W H xs a b p, -1 ≤ x ∧ x ≤ 64 := fun x hx => by
  obtain ⟨i, hi, rfl⟩ := List.getElem_of_mem hx
  have hl := dist_len h hp
  have h9 := dist_at h hp (qn := i) (by omega)
  rw [List.getElem?_eq_getElem hi] at h9
  rw [Option.some.inj h9.1]
  exact h9.2
theorem far_bd {W H a b p : Int} {xs : List Int} {N : Nat} (h : OnFacts W H xs a b N) (hp : hasB W H xs p = true) : ∀ x ∈ farL (leapsL W H xs a b) 144 p, -1 ≤ x ∧ x ≤ 64 := fun x hx => by
  rw [far64 h hp] at hx
  rcases List.mem_append.1 hx with hx | hx
  · exact dist_in64 h hp x hx
  · have := (List.mem_replicate.1 hx).2; omega

def okDist (W H : Int) (xs : List Int) (a b p q : Int) : Bool := onB W H xs a b [p, q] && decide (0 ≤ distV W H xs a b p q)
def distBV (W H : Int) (xs : List Int) (a b p q : Int) : Int := if okDist W H xs a b p q then distV W H xs a b p q else 0
theorem onB_two {W H a b p q : Int} {xs : List Int} (h : onB W H xs a b [p, q] = true) : okTwo W H xs a b = true ∧ hasB W H xs p = true ∧ hasB W H xs q = true := by
  simp only [onB, Bool.and_eq_true, List.all_cons, List.all_nil, and_true] at h
  exact ⟨h.1, h.2.1, h.2.2⟩

end Go.Proofs.Ytmmfjmgjkbplpaa

namespace Go.Proofs.Ytmmfjmgjkbplpaa
open Go.RowKit

def crV (W H : Int) (xs : List Int) (a b p q : Int) : Int := if onB W H xs a b [p, q] = true then (if 0 ≤ distV W H xs a b p q then wrap64 (waysK (cellsL W H xs) (leapsL W H xs a b) p (distV W H xs a b p q).toNat q) else 0) else 0
theorem leaps_back {W H a b : Int} {hs : List Int} : ∀ x ∈ cellsL W H hs, ∀ y ∈ leapsL W H hs a b x, x ∈ leapsL W H hs a b y := by
  intro x hx y hy
  rw [leapsL, List.mem_filter] at hy ⊢
  exact ⟨hx, by rw [leapB_comm]; exact hy.2⟩
theorem grN {W H a b : Int} {xs : List Int} {N : Nat} (h : OnFacts W H xs a b N) : Gr (cellsL W H xs) (leapsL W H xs a b) N :=
  ⟨fun x hx => by have := (hasB_iff.1 (cellsL_mem.1 hx)).1; rw [h.wh] at this; exact this, fun x y hy => adj_in x y hy, leaps_back⟩
theorem gr144 {W H a b : Int} {xs : List Int} {N : Nat} (h : OnFacts W H xs a b N) : Gr (cellsL W H xs) (leapsL W H xs a b) 144 :=
  ⟨cells_in h, fun x y hy => adj_in x y hy, leaps_back⟩
theorem fv_N {W H a b p : Int} {xs : List Int} {N : Nat} (h : OnFacts W H xs a b N) (q : Int) : fv (farL (leapsL W H xs a b) N p) q = distV W H xs a b p q := by
  have hN : (W * H).toNat = N := by have := h.wh; omega
  rw [fv, distV, distL, hN]
theorem fv_144 {W H a b p : Int} {xs : List Int} {N : Nat} (h : OnFacts W H xs a b N) (hp : hasB W H xs p = true) {q : Nat} (hq : q < N) : fv (farL (leapsL W H xs a b) 144 p) (q : Int) = distV W H xs a b p (q : Int) := by
  rw [fv, far64 h hp, distV, List.getD_eq_getElem?_getD, List.getD_eq_getElem?_getD, List.getElem?_append_left (by rw [dist_len h hp, Int.toNat_natCast]; exact hq)]
theorem near_nodup (W H : Int) (xs : List Int) (a b : Int) (D : List Int) (c : Int) : (nearA (leapsL W H xs a b) D c).Nodup := (leapsL_nodup W H xs a b c).filter _
theorem near_in {W H a b : Int} {xs D : List Int} : ∀ x, ∀ y ∈ nearA (leapsL W H xs a b) D x, y ∈ cellsL W H xs := fun x y hy => adj_in x y (List.mem_filter.1 hy).1

end Go.Proofs.Ytmmfjmgjkbplpaa

namespace Go.Proofs.Ytmmfjmgjkbplpaa
open Go.RowKit

/-- The first cell of a cell's row that leads nearer. -/
def nxtR (adj : Int → List Int) (D : List Int) (c : Int) : Int := (nearA adj D c).headD c
def atR (adj : Int → List Int) (D : List Int) (s : Int) : Nat → Int
  | 0 => s
  | k + 1 => nxtR adj D (atR adj D s k)
def rtL (adj : Int → List Int) (D : List Int) (s : Int) (k : Nat) : List Int := (List.range (k + 1)).map (atR adj D s)
theorem rtL_zero (adj : Int → List Int) (D : List Int) (s : Int) : rtL adj D s 0 = [s] := rfl
theorem rtL_next (adj : Int → List Int) (D : List Int) (s : Int) (k : Nat) : rtL adj D s (k + 1) = rtL adj D s k ++ [atR adj D s (k + 1)] := by
  rw [rtL, List.range_succ, List.map_append]; rfl
theorem rtL_len (adj : Int → List Int) (D : List Int) (s : Int) (k : Nat) : (rtL adj D s k).length = k + 1 := by simp [rtL]
theorem filter_head {p : Int → Bool} : ∀ {l : List Int} {i : Nat} {y : Int}, l[i]? = some y → p y = true → (∀ z ∈ l.take i, p z = false) → ∃ r, l.filter p = y :: r
  | [], _, _, h, _, _ => by simp at h
  | x :: t, 0, y, h, hp, _ => by
    simp at h; subst h
    exact ⟨t.filter p, by rw [List.filter_cons, if_pos hp]⟩
  | x :: t, i + 1, y, h, hp, hn => by
    rw [List.filter_cons, if_neg (by rw [hn x (by simp)]; simp)]
    exact filter_head (l := t) (i := i) (by simpa using h) hp (fun z hz => hn z (by rw [List.take_succ_cons]; exact List.mem_cons_of_mem _ hz))
section
variable {cells : List Int} {adj : Int → List Int} {N : Nat} {s t : Int}
theorem Gr.near_iff (g : Gr cells adj N) (ht : t ∈ cells) {c y : Int} (hc : c ∈ cells) (hy : y ∈ adj c) (h0 : 0 ≤ fv (farL adj N t) c) : fv (farL adj N t) y < fv (farL adj N t) c ↔ fv (farL adj N t) y = fv (farL adj N t) c - 1 := by
  have h1 := g.tri ht hc hy h0
  have h2 := g.tri ht (g.cl c y hy) (g.sym c hc y hy) h1.1
  omega
theorem Gr.zero_only (g : Gr cells adj N) (ht : t ∈ cells) {c : Int} (hc : c ∈ cells) (h0 : fv (farL adj N t) c = 0) : c = t := by
  have h' : (farL adj N t).getD c.toNat (-1) = 0 := h0
  rcases far_pred (g.bd t ht) g.ha (g.bd c hc).1 (by omega) with e | ⟨x, _, hx, _, he⟩
  · exact e
  · omega
theorem Gr.near_some (g : Gr cells adj N) (ht : t ∈ cells) {c : Int} (hc : c ∈ cells) (h0 : 0 < fv (farL adj N t) c) : ∃ y r, nearA adj (farL adj N t) c = y :: r ∧ y ∈ adj c ∧ y ∈ cells ∧ fv (farL adj N t) y = fv (farL adj N t) c - 1 := by
  have h' : 0 < (farL adj N t).getD c.toNat (-1) := h0
  have hex : ∃ x ∈ adj c, fv (farL adj N t) x < fv (farL adj N t) c := by
    rcases far_pred (g.bd t ht) g.ha (g.bd c hc).1 (by omega) with e | ⟨x, hxr, hx, hm, he⟩
    · subst e
      have := g.zero ht
      omega
    · have hxc : x ∈ cells := by
        have h9 := far_from (S := fun z => z ∈ cells) (g.bd t ht) g.ha ht (fun z _ w hw => g.cl z w hw) hx
        rw [Int.toNat_of_nonneg hxr.1] at h9
        exact h9
      exact ⟨x, g.sym x hxc c hm, show (farL adj N t).getD x.toNat (-1) < (farL adj N t).getD c.toNat (-1) by omega⟩
  obtain ⟨x, hx, hlt⟩ := hex
  cases hn : nearA adj (farL adj N t) c with
  | nil =>
    have : x ∈ nearA adj (farL adj N t) c := List.mem_filter.2 ⟨hx, decide_eq_true hlt⟩
    rw [hn] at this; cases this
  | cons y r =>
    have hy : y ∈ nearA adj (farL adj N t) c := by rw [hn]; exact List.mem_cons_self
    have h1 := List.mem_filter.1 hy
    exact ⟨y, r, rfl, h1.1, g.cl c y h1.1, (g.near_iff ht hc h1.1 (by omega)).1 (of_decide_eq_true h1.2)⟩
theorem Gr.near_none (g : Gr cells adj N) (ht : t ∈ cells) {c : Int} (h0 : ¬ 0 ≤ fv (farL adj N t) c) : nearA adj (farL adj N t) c = [] := by
  refine List.filter_eq_nil_iff.2 fun y _ h => ?_
  have h1 := of_decide_eq_true h
  have h2 := g.lo ht y
  have h3 := g.lo ht c
  omega
theorem Gr.at_ (g : Gr cells adj N) (hs : s ∈ cells) (ht : t ∈ cells) : ∀ k : Nat, (k : Int) ≤ fv (farL adj N t) s → atR adj (farL adj N t) s k ∈ cells ∧ fv (farL adj N t) (atR adj (farL adj N t) s k) = fv (farL adj N t) s - k
  | 0, _ => ⟨hs, by rw [atR]; omega⟩
  | k + 1, hk => by
    have ih := g.at_ hs ht k (by omega)
    obtain ⟨y, r, h1, _, h3, h4⟩ := g.near_some ht ih.1 (by omega)
    have e : atR adj (farL adj N t) s (k + 1) = y := by rw [atR, nxtR, h1]; rfl
    rw [e]
    exact ⟨h3, by omega⟩
theorem Gr.at_row (g : Gr cells adj N) (hs : s ∈ cells) (ht : t ∈ cells) {k : Nat} (hk : (k : Int) < fv (farL adj N t) s) : ∃ r, nearA adj (farL adj N t) (atR adj (farL adj N t) s k) = atR adj (farL adj N t) s (k + 1) :: r := by
  have ih := g.at_ hs ht k (by omega)
  obtain ⟨y, r, h1, _⟩ := g.near_some ht ih.1 (by omega)
  exact ⟨r, by rw [h1, atR, nxtR, h1]; rfl⟩
end
def frOk (W H : Int) (xs : List Int) (a b p q : Int) : Bool := onB W H xs a b [p, q] && decide (0 ≤ fv (farL (leapsL W H xs a b) 144 q) p)
def frV (W H : Int) (xs : List Int) (a b p q : Int) : List Int := if frOk W H xs a b p q = true then rtL (leapsL W H xs a b) (farL (leapsL W H xs a b) 144 q) p (fv (farL (leapsL W H xs a b) 144 q) p).toNat else []

end Go.Proofs.Ytmmfjmgjkbplpaa

namespace Go.Proofs.Ytmmfjmgjkbplpaa
open Go.RowKit

set_option maxRecDepth 100000 in
set_option maxHeartbeats 4000000 in
theorem spec_FirstRoute (W H : Int) (A : Option Addr) (n c : Nat) (xs : List Int) (a b : Int) (p : Int) (q : Int) (w : World) (ha : Rd w A n xs) :
    Calls Try.prog 12 #[brd W H A n c, lpr a b, .int .i64 p, .int .i64 q] w fun e w' => ∃ A' n' c', e = .returned (.tuple #[.slice A' n' c', .bool (frOk W H xs a b p q)]) ∧ OwnI 3 w' w.heap.size A' n' c' (frV W H xs a b p q) ∧ Below w.heap.size w w' := by
  by_cases ho : onB W H xs a b [p, q] = true
  · have FO := on_facts (onB_two ho).1
    have HP := Lib.hid (onB_two ho).2.1
    have HQH := Lib.hid (onB_two ho).2.2
    obtain ⟨N, hN⟩ : ∃ N, N = (W * H).toNat := ⟨_, rfl⟩
    rw [← hN] at FO
    have hp0 := (hasB_iff.1 HP.out).1
    have hq0 := (hasB_iff.1 HQH.out).1
    rw [FO.wh] at hp0 hq0
    obtain ⟨s, rfl⟩ : ∃ s : Nat, p = (s : Int) := ⟨p.toNat, by omega⟩
    obtain ⟨t, rfl⟩ : ∃ t : Nat, q = (t : Int) := ⟨q.toNat, by omega⟩
    have hs : s < N := by omega
    have ht : t < N := by omega
    have HF := Lib.hid FO
    have n64 := FO.n.2
    have HWHN := Lib.hid FO.wh
    have HNN := Lib.hid (show 1 ≤ W * H ∧ W * H ≤ 64 by have := FO.wh; have := FO.n; omega)
    have HO := Lib.hid ho
    have HPC := cellsL_mem.2 HP.out
    have HQC := cellsL_mem.2 HQH.out
    have HDG := Lib.hid (show ∀ j : Nat, j < N → (farL (leapsL W H xs a b) N (t : Int))[j]? = some (fv (farL (leapsL W H xs a b) 144 (t : Int)) (j : Int)) from fun j hj => by
      have hl : (farL (leapsL W H xs a b) N (t : Int)).length = N := far_len ((grN FO).bd _ HQC) (grN FO).ha
      rw [fv_144 FO HQH.out hj, ← fv_N FO, fv, Int.toNat_natCast, List.getD_eq_getElem?_getD, List.getElem?_eq_getElem (by omega)]; rfl)
    have HAT := Lib.hid (fun (k : Nat) (hk : (k : Int) ≤ fv (farL (leapsL W H xs a b) 144 (t : Int)) (s : Int)) => (gr144 FO).at_ HPC HQC k hk)
    have HNS := Lib.hid (fun c hc h0 => (gr144 FO).near_some HQC (c := c) hc h0)
    have HNI := Lib.hid (fun c y hc hy h0 => (gr144 FO).near_iff HQC (c := c) (y := y) hc hy h0)
    have HZO := Lib.hid (fun c hc h0 => (gr144 FO).zero_only HQC (c := c) hc h0)
    have HT0 := Lib.hid ((gr144 FO).zero HQC)
    have hlo := (gr144 FO).lo HQC (s : Int)
    have HCB := Lib.hid (show ∀ c ∈ cellsL W H xs, 0 ≤ c ∧ c < (N : Int) from (grN FO).bd)
    clear FO hp0 hq0 hN HPC HQC
    obtain ⟨i0, hi, hy0, hy1, hy2⟩ := info_parts infoI
    have HI := Lib.hid hi; have HZ0 := Lib.hid hy0; have HZ1 := Lib.hid hy1; have HZ2 := Lib.hid hy2
    clear hi hy0 hy1 hy2
    have HOKE := Lib.hid (show frOk W H xs a b (s : Int) (t : Int) = decide (0 ≤ fv (farL (leapsL W H xs a b) 144 (t : Int)) (s : Int)) by rw [frOk, HO.out, Bool.true_and])
    have HVE := Lib.hid (show frV W H xs a b (s : Int) (t : Int) = if frOk W H xs a b (s : Int) (t : Int) = true then rtL (leapsL W H xs a b) (farL (leapsL W H xs a b) 144 (t : Int)) (s : Int) (fv (farL (leapsL W H xs a b) 144 (t : Int)) (s : Int)).toNat else [] from rfl)
    obtain ⟨D, hD⟩ : ∃ D, D = farL (leapsL W H xs a b) 144 (t : Int) := ⟨_, rfl⟩
    rw [← hD] at HDG HAT HNS HNI HZO HT0 hlo HOKE HVE
    clear hD
    obtain ⟨ok, hok⟩ : ∃ ok, ok = frOk W H xs a b (s : Int) (t : Int) := ⟨_, rfl⟩
    obtain ⟨V, hV⟩ : ∃ V, V = frV W H xs a b (s : Int) (t : Int) := ⟨_, rfl⟩
    rw [← hok] at HOKE HVE ⊢
    rw [← hV] at HVE ⊢
    clear hok hV
    go_enter Try.func12, Try.ntmps12
    go_wp2_with fail
    refine (faAsked_any _ _ _ _ _ _ _ _ _ _ _ ((ha.alloc _).alloc _)).mono ?_
    rw [ho]
    rintro e wv ⟨rfl, hb⟩
    have hbx0 := below_box hb
    have a0 : wv.cell? ⟨w.heap.size, 0, none⟩ = some (.int .i64 W) := by simpa using newbox hbx0 0
    have a1 : wv.cell? ⟨w.heap.size, 1, none⟩ = some (.int .i64 H) := by simpa using newbox hbx0 1
    have a2 : wv.cell? ⟨w.heap.size, 2, none⟩ = some (.slice A n c) := by simpa using newbox hbx0 2
    have al : w.heap.size < wv.heap.size := by simpa using newbox_lt hbx0
    have l0 : wv.cell? ⟨w.heap.size + 1, 0, none⟩ = some (.int .i64 a) := by simpa using newbox hb 0
    have l1 : wv.cell? ⟨w.heap.size + 1, 1, none⟩ = some (.int .i64 b) := by simpa using newbox hb 1
    have ll : w.heap.size + 1 < wv.heap.size := by simpa using newbox_lt hb
    have B := Lib.hid (below_box hbx0)
    clear hb hbx0
    clear ho
    go_wp2_with fail
    refine (faFrom_any W H A n c xs a b t N _ (ha.keep B.out) HF.out.g HF.out.wh ht).mono ?_
    rintro e wx ⟨g, rfl, own, hb⟩
    have hbs := B.out.size
    replace a0 := cell_keep a0 al hb; replace a1 := cell_keep a1 al hb; replace a2 := cell_keep a2 al hb; replace l0 := cell_keep l0 ll hb; replace l1 := cell_keep l1 ll hb; replace al := lt_keep al hb; replace ll := lt_keep ll hb; replace B := Lib.hid (below_next B.out hb)
    have HFX := Lib.hid own
    have cs := own.cell (HDG.out s hs)
    obtain ⟨fs, hfs⟩ : ∃ fs, fs = fv D (s : Int) := ⟨_, rfl⟩
    rw [← hfs] at cs hlo HOKE HVE
    have HFS := Lib.hid hfs
    have s0 : (0 : Int) ≤ (s : Int) := by omega
    have sN : (s : Int) < (N : Int) := by omega
    have hsz := B.out.size
    clear own hb hfs
    by_cases hn : fs < 0
    · have hk9 : ok = false := by rw [HOKE.out]; exact decide_eq_false (by omega)
      have HV := Lib.hid (show V = [] by rw [HVE.out, if_neg (by rw [hk9]; simp)])
      subst hk9
      go_wp2
      go_ret2
      exact ⟨none, 0, 0, rfl, by rw [HV.out]; exact OwnI.none_ _ _ _, B.out⟩
    · have hk9 : ok = true := by rw [HOKE.out]; exact decide_eq_true (by omega)
      have HV := Lib.hid (show V = rtL (leapsL W H xs a b) D (s : Int) fs.toNat by rw [HVE.out, if_pos hk9])
      subst hk9
      obtain ⟨L, rfl⟩ : ∃ L : Nat, fs = (L : Int) := ⟨fs.toNat, by omega⟩
      have hL144 : L ≤ 144 := by omega
      clear HOKE HVE
      go_wp2
      have hr0 : OwnI 3 (wx.alloc (.cells #[.int .i64 (s : Int)] 3)) wx.heap.size (some ⟨wx.heap.size, 0, none⟩) 1 1 [(s : Int)] :=
        World.ownsRow_lit (base := wx.heap.size) (e := 3) wx (#[.int .i64 (s : Int)] : Array Value) 1 (size := 1) (Nat.le_refl _) (by decide) rfl
      have hb0 : Below wx.heap.size wx (wx.alloc (.cells #[.int .i64 (s : Int)] 3)) := below_new (Below.refl _ _) _
      have HR0 := Lib.hid hr0; have HB0 := Lib.hid hb0
      clear hr0 hb0 hn cs
      generalize wx.alloc (.cells #[.int .i64 (s : Int)] 3) = W4 at *
      go_loopw [11, 12] (fun v cc wr => ∃ (k n' c' : Nat) (a9 : Addr), k ≤ L ∧ v = .slice (some a9) n' c' ∧ cc = .int .i64 (atR (leapsL W H xs a b) D (s : Int) k) ∧ OwnI 3 wr wx.heap.size (some a9) n' c' (rtL (leapsL W H xs a b) D (s : Int) k) ∧ Below wx.heap.size wx wr) (fun _ cc _ => (fv D (intOf cc)).toNat)
      case atStart => exact ⟨0, 1, 1, _, Nat.zero_le _, rfl, rfl, HR0.out, HB0.out⟩
      case round =>
        clear HR0 HB0
        obtain ⟨k, n', c', a9, hk, rfl, rfl, hown, hbw⟩ := hrel
        have HOR := Lib.hid hown; have HBW := Lib.hid hbw
        have HNK := Lib.hid (show n' = k + 1 by have := hown.len; rw [rtL_len] at this; omega)
        obtain ⟨hac, hfx⟩ := HAT.out k (by rw [← HFS.out]; omega)
        rw [← HFS.out] at hfx
        have hxr := HCB.out _ hac
        obtain ⟨xn, hx⟩ : ∃ xn : Nat, atR (leapsL W H xs a b) D (s : Int) k = (xn : Int) := ⟨_, (Int.toNat_of_nonneg hxr.1).symm⟩
        rw [hx] at hac hfx hxr ⊢
        have HX := Lib.hid hx; have HFX0 := Lib.hid hfx
        by_cases hkl : k < L
        · have hne : (xn : Int) ≠ (t : Int) := fun e => by have h9 := HT0.out; rw [← e] at h9; omega
          have hne1 : ((xn : Int) == (t : Int)) = false := by simpa using hne
          have hne2 : ((xn : Int) != (t : Int)) = true := by simp [bne, hne1]
          have hn9 : n' ≤ 1000000 := by have := HNK.out; omega
          have HXN := Lib.hid (show xn < N by omega)
          have HX64 := Lib.hid (show 0 ≤ (xn : Int) ∧ (xn : Int) ≤ 64 by omega)
          have HEX := Lib.hid (show ∃ y ∈ (leapsL W H xs a b (xn : Int)), fv D y = fv D (xn : Int) - 1 by
            obtain ⟨y, _, _, h1, _, h2⟩ := HNS.out (xn : Int) hac (by omega)
            exact ⟨y, h1, h2⟩)
          have HIFF := Lib.hid (show ∀ z ∈ (leapsL W H xs a b (xn : Int)), fv D z < fv D (xn : Int) → fv D z = fv D (xn : Int) - 1 from fun z hz h => (HNI.out (xn : Int) z hac hz (by omega)).1 h)
          have HRW := Lib.hid ((ha.keep B.out).keep hbw)
          replace a0 := cell_keep a0 al hbw; replace a1 := cell_keep a1 al hbw; replace a2 := cell_keep a2 al hbw; replace l0 := cell_keep l0 ll hbw; replace l1 := cell_keep l1 ll hbw; replace al := lt_keep al hbw; replace ll := lt_keep ll hbw
          clear hown hbw hx hfx hac hxr hne
          go_wp2_with fail
          refine (boLeaps_any W H A n c xs a b (xn : Int) _ HRW.out HF.out.g HX64.out).mono ?_
          rintro e w6 ⟨A3, n3, c3, rfl, own3, hb⟩
          have HRD := Lib.hid own3.rd
          have HL3 := Lib.hid own3.len
          have hn3 : n3 ≤ 64 := by have := leapsL_len64 (W := W) (H := H) (xs := xs) (a := a) (b := b) (q := (xn : Int)) HNN.out; have := own3.len; omega
          have HO6 := Lib.hid (HOR.out.keep hb)
          have HFA6 := Lib.hid ((HFX.out.keep HBW.out).keep hb)
          have HB6 := Lib.hid (HBW.out.trans (hb.mono HBW.out.size))
          clear own3 hb a0 a1 a2 l0 l1 al ll HOR
          go_wp2
          go_loopw [12, 41] (fun cc i w7 => ∃ i3 : Nat, i3 ≤ n3 ∧ i = .int .i64 i3 ∧ cc = .int .i64 (xn : Int) ∧ (∀ z ∈ (leapsL W H xs a b (xn : Int)).take i3, fv D z ≠ fv D (xn : Int) - 1) ∧ Below w6.heap.size w6 w7) (fun _ i _ => n3 - (intOf i).toNat)
          case atStart => exact ⟨0, Nat.zero_le _, rfl, rfl, fun z h => absurd h (by simp), Below.refl _ _⟩
          case round =>
            obtain ⟨i3, hi3, rfl, rfl, hno, hb7⟩ := hrel
            have HNO := Lib.hid hno; have HB7 := Lib.hid hb7
            by_cases hil : i3 < n3
            · obtain ⟨b3, o3, y, he3, hg3, hy, y0⟩ := (HRD.out.keep hb7).at_ hil
              have HY := Lib.hid hy
              have HYM := Lib.hid (List.mem_of_getElem? hy)
              have hyr := leaps_in HWHN.out (List.mem_of_getElem? hy)
              obtain ⟨yn, rfl⟩ : ∃ yn : Nat, y = (yn : Int) := ⟨y.toNat, by omega⟩
              have hyN : yn < N := by omega
              have cfy := (HFA6.out.keep hb7).cell (HDG.out yn hyN)
              have cfx := (HFA6.out.keep hb7).cell (HDG.out xn HXN.out)
              obtain ⟨dy, hdy⟩ : ∃ dy, dy = fv D (yn : Int) := ⟨_, rfl⟩
              obtain ⟨dx, hdx⟩ : ∃ dx, dx = fv D (xn : Int) := ⟨_, rfl⟩
              rw [← hdy] at cfy
              rw [← hdx] at cfx
              have HDY := Lib.hid hdy; have HDX := Lib.hid hdx
              have hdx1 : 0 ≤ dx ∧ dx ≤ 144 := by have := HFX0.out; omega
              have hdxa := hdx1.1
              have hdxb := hdx1.2
              subst he3
              have y00 : (0 : Int) ≤ (yn : Int) := by omega
              have yN' : (yn : Int) < (N : Int) := by omega
              have x00 : (0 : Int) ≤ (xn : Int) := by omega
              have xN' : (xn : Int) < (N : Int) := by have := HXN.out; omega
              have i30 : (0 : Int) ≤ (i3 : Int) := by omega
              have i3n : (i3 : Int) < (n3 : Int) := by omega
              have HO7 := Lib.hid (fun q => (HO6.out.keep hb7).drewN q)
              have HSZ7 := Lib.hid (fun q => show wx.heap.size ≤ (wr.drewN q).heap.size from (HB6.out.trans (hb7.mono HB6.out.size)).size)
              have HBX7 := Lib.hid (fun q => below_drewN (HB6.out.trans (hb7.mono HB6.out.size)) q)
              clear hy hyr hdy hdx hno hb7 hdx1
              by_cases hm : dy = dx - 1
              · have hm1 : (dy == dx - 1) = true := by simpa using hm
                have HNXT := Lib.hid (show atR (leapsL W H xs a b) D (s : Int) (k + 1) = (yn : Int) by
                  obtain ⟨r, hr⟩ := filter_head (p := fun z => decide (fv D z < fv D (xn : Int))) HY.out (decide_eq_true (by rw [← HDY.out, ← HDX.out]; omega)) (fun z hz => decide_eq_false (fun h => HNO.out z hz (HIFF.out z (List.mem_of_mem_take hz) h)))
                  rw [atR, HX.out, nxtR, nearA, hr]; rfl)
                have HMM := Lib.hid hm
                clear hm
                go_wp2
                go_quiet (fail)
                go_wp2_with (at_builtin; refine wpList_app1 rfl (.tmp 57) (.tmp 59) 22 3 rfl i0 Try.underlying22 HI.out HZ0.out HZ1.out HZ2.out wx.heap.size (some a9) n' c' _ (yn : Int) rfl (HO7.out _) rfl hn9 (HSZ7.out _) ?_; intro A2 c2 w2 hown2 hb2)
                obtain ⟨g9, rfl, _, _⟩ := hown2.some_ (k := 0) (by omega)
                have HO2 := Lib.hid hown2; have HB2 := Lib.hid ((HBX7.out _).trans hb2)
                clear hown2 hb2
                go_wp2
                go_roundw
                case rel => exact ⟨k + 1, n' + 1, c2, _, by omega, rfl, by rw [HNXT.out], by rw [rtL_next, HNXT.out]; exact HO2.out, HB2.out⟩
                case measure => simp only [intOf]; have := HFX0.out; have := HDX.out; have := HDY.out; have := HMM.out; omega
              · have hm1 : (dy == dx - 1) = false := by simpa using hm
                have HM := Lib.hid (show fv D (yn : Int) ≠ fv D (xn : Int) - 1 by rw [← HDY.out, ← HDX.out]; exact hm)
                clear hm
                go_wp2
                go_quiet (fail)
                go_wp2
                go_roundw
                case rel =>
                  refine ⟨i3 + 1, by omega, by go_num, rfl, fun z hz => ?_, below_drewN HB7.out _⟩
                  rw [List.take_add_one, HY.out] at hz
                  rcases List.mem_append.1 hz with hz | hz
                  · exact HNO.out z hz
                  · simp at hz; subst hz; exact HM.out
                case measure => simp [intOf]; omega
            · exfalso
              obtain ⟨y, hy, he⟩ := HEX.out
              exact hno y (by rw [List.take_of_length_le (by have := HL3.out; omega)]; exact hy) he
        · have hkL : k = L := by omega
          have hxt : (xn : Int) = (t : Int) := HZO.out (xn : Int) hac (by omega)
          have hne1 : ((xn : Int) == (t : Int)) = true := by simpa using hxt
          have hne2 : ((xn : Int) != (t : Int)) = false := by simp [bne, hne1]
          have HKL := Lib.hid hkL
          clear hown hbw hx hfx hac hxr hxt hkL
          go_wp2
          go_ret2
          exact ⟨some a9, n', c', rfl, by rw [HV.out, Int.toNat_natCast, ← HKL.out]; exact HOR.out.lower hsz, below_next B.out HBW.out⟩
  · have ho' : onB W H xs a b [p, q] = false := by simpa using ho
    have HOK := Lib.hid (show frOk W H xs a b p q = false by rw [frOk, ho', Bool.false_and])
    go_enter Try.func12, Try.ntmps12
    go_wp2_with fail
    refine (faAsked_any _ _ _ _ _ _ _ _ _ _ _ ((ha.alloc _).alloc _)).mono ?_
    rw [ho']
    rintro e wv ⟨rfl, hb⟩
    have hbx0 := below_box hb
    have a0 : wv.cell? ⟨w.heap.size, 0, none⟩ = some (.int .i64 W) := by simpa using newbox hbx0 0
    have a1 : wv.cell? ⟨w.heap.size, 1, none⟩ = some (.int .i64 H) := by simpa using newbox hbx0 1
    have a2 : wv.cell? ⟨w.heap.size, 2, none⟩ = some (.slice A n c) := by simpa using newbox hbx0 2
    have al : w.heap.size < wv.heap.size := by simpa using newbox_lt hbx0
    have l0 : wv.cell? ⟨w.heap.size + 1, 0, none⟩ = some (.int .i64 a) := by simpa using newbox hb 0
    have l1 : wv.cell? ⟨w.heap.size + 1, 1, none⟩ = some (.int .i64 b) := by simpa using newbox hb 1
    have ll : w.heap.size + 1 < wv.heap.size := by simpa using newbox_lt hb
    have B := Lib.hid (below_box hbx0)
    clear hb hbx0
    go_wp2
    go_ret2
    exact ⟨none, 0, 0, by rw [HOK.out]; rfl, by rw [frV, if_neg (by rw [HOK.out]; simp)]; exact OwnI.none_ _ _ _, B.out⟩

end Go.Proofs.Ytmmfjmgjkbplpaa
