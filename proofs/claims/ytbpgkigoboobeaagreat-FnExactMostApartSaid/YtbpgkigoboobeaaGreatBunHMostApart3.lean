/-
  Contracts: leaps apart, in the program: slices.IndexFunc at lines that one meets.
  Contracts: leaps apart, in the program: slices.DeleteFunc at lines that one meets.
  Contracts: leaps apart, in the program: slices.Clone at lines, mostApart.
  Contracts: leaps apart, in the program: mostApart.
  Contracts: MostApart, in the program.
  The walk of the exact law on MostApart: it answers true, and what was there stays.
-/
import Derived.Test.YtbpgkigoboobeaaGreatBunHMostApart2
import Derived.Test.YtbpgkigoboobeaaGreatJ9
import Derived.Lib.SliceRun
import Derived.Test.YtbpgkigoboobeaaGreatZ1
import Derived.Test.YtbpgkigoboobeaaGreatLaw0
namespace Go.Proofs.YtbpgkigoboobeaaGreat
open Go.RowKit

/-- A row of lines that is read only. -/
def RdN (w : World) (b off n : Nat) (zs : List Ln) : Prop :=
  zs.length = n ∧ n ≤ 1000 ∧ b < w.heap.size ∧ ∀ (k : Nat) (l : Ln), zs[k]? = some l →
    w.cell? ⟨b, off + k * 4, none⟩ = some (.int .i64 l.1.1) ∧ w.cell? ⟨b, off + k * 4 + 1, none⟩ = some (.int .i64 l.1.2) ∧ w.cell? ⟨b, off + k * 4 + 2, none⟩ = some (.int .i64 l.2.1) ∧ w.cell? ⟨b, off + k * 4 + 3, none⟩ = some (.int .i64 l.2.2)
theorem RdN.keep {w w' : World} {b off n : Nat} {zs : List Ln} (h : RdN w b off n zs) (hb : Below w.heap.size w w') : RdN w' b off n zs := by
  obtain ⟨h1, h2, h3, h4⟩ := h
  refine ⟨h1, h2, Nat.lt_of_lt_of_le h3 hb.size, fun k l hl => ?_⟩
  obtain ⟨c0, c1, c2, c3⟩ := h4 k l hl
  exact ⟨cell_keep c0 h3 hb, cell_keep c1 h3 hb, cell_keep c2 h3 hb, cell_keep c3 h3 hb⟩
theorem RdN.drew1 {w : World} {b off n : Nat} {zs : List Ln} (h : RdN w b off n zs) : RdN w.drew b off n zs := h
theorem RdN.own {w : World} {lo b n c : Nat} {zs : List Ln} (h : OwnN w lo (some ⟨b, 0, none⟩) n c zs) (hn : n ≤ 1000) (hb : b < w.heap.size) : RdN w b 0 n zs := by
  refine ⟨h.len, hn, hb, fun k l hl => ?_⟩
  have e := line_at h hl
  simpa using e
theorem RdN.tail {w : World} {b off n : Nat} {l : Ln} {zs : List Ln} (h : RdN w b off (n + 1) (l :: zs)) : RdN w b (off + 4) n zs := by
  obtain ⟨h1, h2, h3, h4⟩ := h
  refine ⟨by simpa using h1, by omega, h3, fun k l2 hl => ?_⟩
  have e := h4 (k + 1) l2 (by simpa using hl)
  rw [show off + (k + 1) * 4 = off + 4 + k * 4 by omega] at e
  exact e

set_option maxRecDepth 100000 in
set_option maxHeartbeats 4000000 in
theorem idxF_any (b off n c : Nat) (zs : List Ln) (x y u v : Int) (w : World) (h : RdN w b off n zs) (hco : ∀ l ∈ zs, CoL l) (hx : Co x) (hy : Co y) (hu : Co u) (hv : Co v) :
    Calls Tryz.prog 96 #[.slice (some ⟨b, off, none⟩) n c, .func (.func 75) #[lnv x y u v] #[]] w fun e w' =>
      ∃ i : Int, e = .returned (.int .i64 i) ∧ ((i = -1 ∧ ∀ j, j < n → ∀ l, zs[j]? = some l → meetS ((x, y), (u, v)) l = false) ∨ ∃ k : Nat, i = k ∧ k < n ∧ (∀ j, j < k → ∀ l, zs[j]? = some l → meetS ((x, y), (u, v)) l = false) ∧ ∀ l, zs[k]? = some l → meetS ((x, y), (u, v)) l = true) ∧ Below w.heap.size w w' := by
  have HX := Lib.hid hx; have HY := Lib.hid hy; have HU := Lib.hid hu; have HV := Lib.hid hv; have HCO := Lib.hid hco; have HR := Lib.hid h
  have HN := Lib.hid h.2.1; have HL := Lib.hid h.1
  have hn1000 : n ≤ 1000 := h.2.1
  clear hx hy hu hv hco h
  go_enter Tryz.func96, Tryz.ntmps96
  go_wp2
  go_loopw [5, 8] (fun _ i wr => ∃ k : Nat, k ≤ n ∧ i = .int .i64 k ∧ (∀ j, j < k → ∀ l, zs[j]? = some l → meetS ((x, y), (u, v)) l = false) ∧ Below w.heap.size w wr) (fun _ i _ => n - (intOf i).toNat)
  case atStart => exact ⟨0, Nat.zero_le _, rfl, fun j hj => absurd hj (Nat.not_lt_zero _), Below.refl _ _⟩
  case round =>
    obtain ⟨k, hk, rfl, hno, hbw⟩ := hrel
    have HB := Lib.hid hbw; have HNO := Lib.hid hno
    by_cases hlt : k < n
    · obtain ⟨⟨⟨s, t⟩, p, q⟩, hz⟩ : ∃ z, zs[k]? = some z := ⟨_, List.getElem?_eq_getElem (by rw [HL.out]; exact hlt)⟩
      have HZ := Lib.hid hz
      have hc := HCO.out _ (List.mem_of_getElem? hz)
      have HS := Lib.hid hc.1.1; have HT := Lib.hid hc.1.2; have HP := Lib.hid hc.2.1; have HQ := Lib.hid hc.2.2
      obtain ⟨c0, c1, c2, c3⟩ := (HR.out.keep hbw).2.2.2 k _ hz
      simp only at c0 c1 c2 c3
      have k0 : (0 : Int) ≤ (k : Int) := by omega
      have kn : (k : Int) < (n : Int) := by omega
      clear hz hc hbw hno
      cases hm : meetS ((x, y), (u, v)) ((s, t), (p, q)) with
      | true =>
        have HM := Lib.hid hm
        clear hm
        go_wp2_with fail
        refine (meets_any x y u v s t p q _ HX.out HY.out HU.out HV.out HS.out HT.out HP.out HQ.out).mono ?_
        rw [HM.out]
        rintro e wx ⟨rfl, hb⟩
        replace HB := Lib.hid (below_next HB.out hb)
        clear hb c0 c1 c2 c3
        go_wp2
        go_ret
        exact ⟨k, rfl, Or.inr ⟨k, rfl, hlt, HNO.out, fun l hl => by rw [HZ.out] at hl; injection hl with hl; subst hl; exact HM.out⟩, HB.out⟩
      | false =>
        have HM := Lib.hid hm
        clear hm
        go_wp2_with fail
        refine (meets_any x y u v s t p q _ HX.out HY.out HU.out HV.out HS.out HT.out HP.out HQ.out).mono ?_
        rw [HM.out]
        rintro e wx ⟨rfl, hb⟩
        replace HB := Lib.hid (below_next HB.out hb)
        clear hb c0 c1 c2 c3
        go_wp2
        go_roundw
        case rel => exact ⟨k + 1, by omega, by go_num, fun j hj l hl => by
          rcases Nat.lt_succ_iff_lt_or_eq.1 hj with h | h
          · exact HNO.out j h l hl
          · subst h; rw [HZ.out] at hl; injection hl with hl; subst hl; exact HM.out, HB.out⟩
        case measure => simp [intOf]; omega
    · have kn : ¬ (k : Int) < (n : Int) := by omega
      have HE := Lib.hid (show k = n by omega)
      clear hbw hno
      go_wp2
      go_ret
      refine ⟨-1, rfl, Or.inl ⟨rfl, ?_⟩, HB.out⟩
      rw [← HE.out]
      first | exact HNO.out | exact fun j hj a b a1 b1 hl => HNO.out j hj _ hl

end Go.Proofs.YtbpgkigoboobeaaGreat

namespace Go.Proofs.YtbpgkigoboobeaaGreat
open Go.RowKit

theorem flatN_set : ∀ (xs : List Ln) (i : Nat) (l : Ln), i < xs.length → ((((xs.flatMap encN).set (i * 4) (.int .i64 l.1.1)).set (i * 4 + 1) (.int .i64 l.1.2)).set (i * 4 + 2) (.int .i64 l.2.1)).set (i * 4 + 3) (.int .i64 l.2.2) = (xs.set i l).flatMap encN
  | [], _, _, h => by simp at h
  | q :: t, 0, l, _ => by simp [encN]
  | q :: t, i + 1, l, h => by
    have ih := flatN_set t i l (by simpa using h)
    rw [List.set_cons_succ, List.flatMap_cons, List.flatMap_cons, ← ih]
    rw [List.set_append_right _ _ (by simp [encN]; omega), List.set_append_right _ _ (by simp [encN]; omega), List.set_append_right _ _ (by simp [encN]; omega), List.set_append_right _ _ (by simp [encN]; omega)]
    congr 5
    all_goals simp [encN]; omega
theorem OwnN.stored {w : World} {lo g n c : Nat} {xs : List Ln} (h : OwnN w lo (some ⟨g, 0, none⟩) n c xs) {i : Nat} (hi : i < n) (l : Ln) :
    OwnN ((((w.setCell ⟨g, i * 4, none⟩ (.int .i64 l.1.1)).setCell ⟨g, i * 4 + 1, none⟩ (.int .i64 l.1.2)).setCell ⟨g, i * 4 + 2, none⟩ (.int .i64 l.2.1)).setCell ⟨g, i * 4 + 3, none⟩ (.int .i64 l.2.2)) lo (some ⟨g, 0, none⟩) n c (xs.set i l) ∧
      w.grownBy ((((w.setCell ⟨g, i * 4, none⟩ (.int .i64 l.1.1)).setCell ⟨g, i * 4 + 1, none⟩ (.int .i64 l.1.2)).setCell ⟨g, i * 4 + 2, none⟩ (.int .i64 l.2.1)).setCell ⟨g, i * 4 + 3, none⟩ (.int .i64 l.2.2)) (some g) := by
  obtain ⟨h1, g1⟩ := World.ownsRow.stored h.2 (i * 4) (.int .i64 l.1.1)
  obtain ⟨h2, g2⟩ := World.ownsRow.stored h1 (i * 4 + 1) (.int .i64 l.1.2)
  obtain ⟨h3, g3⟩ := World.ownsRow.stored h2 (i * 4 + 2) (.int .i64 l.2.1)
  obtain ⟨h4, g4⟩ := World.ownsRow.stored h3 (i * 4 + 3) (.int .i64 l.2.2)
  rw [flatN_set xs i l (by rw [h.1]; exact hi)] at h4
  exact ⟨⟨by rw [List.length_set]; exact h.1, h4⟩, grown_next (grown_next (grown_next g1 g2) g3) g4⟩
/-- 'clear(s)', s a slice of n > 0 lines. -/
theorem run_clear_lines {P : Program} (w : World) (t e ty : TypeId) (ht : P.underlying t = some (.slice e)) (hv : ∀ w, (zeroValue e).run P w = .ok (.agg #[.int .i64 0, .int .i64 0, .int .i64 0, .int .i64 0]) w) (b o n c : Nat) (hn : 0 < n)
    (hc : ∀ j, j < n * 4 → (w.cell? ⟨b, o + j, none⟩).isSome = true) (hf : ∀ j, j < n * 4 → w.frozen? ⟨b, o + j, none⟩ = false) :
    (Builtin.clear_ #[t] ty #[.slice (some ⟨b, o, none⟩) n c]).run P w = .ok (.tuple #[]) (w.setCells b o (List.replicate (n * 4) (.int .i64 0))) := by
  have hzc : (Builtin.zeroCells (Value.agg #[.int .i64 0, .int .i64 0, .int .i64 0, .int .i64 0]).cells n).toList = List.replicate (n * 4) (.int .i64 0) := by
    simp [Builtin.zeroCells, Value.cells]
    apply List.ext_getElem
    · simp
    · intro i h1 h2
      have : i % 4 = 0 ∨ i % 4 = 1 ∨ i % 4 = 2 ∨ i % 4 = 3 := by omega
      rcases this with h | h | h | h <;> simp [h]
  have hst := run_storeCells_cells (P := P) b o (List.replicate (n * 4) (.int .i64 0)) 0 w (by simpa using hc) (by simpa using hf) (by intro v hv'; rw [List.eq_of_mem_replicate hv']; rfl)
  simp only [Nat.add_zero] at hst
  obtain ⟨m, rfl⟩ : ∃ m, n = m + 1 := ⟨n - 1, by omega⟩
  simp [Builtin.clear_, run_underlying ht, hv, hzc, hst]

/-- What is kept so far: the row L, of zs the first j looked at, i kept. -/
def KeepI (q : Ln → Bool) (zs : List Ln) (j i : Nat) (L : List Ln) : Prop := L.length = zs.length ∧ i < j ∧ L.take i = (zs.take j).filter q ∧ ∀ t, j ≤ t → L[t]? = zs[t]?
theorem KeepI.start {q : Ln → Bool} {zs : List Ln} {k : Nat} (hk : ∀ j, j < k → ∀ l, zs[j]? = some l → q l = true) (hlt : k < zs.length) (hd : ∀ l, zs[k]? = some l → q l = false) : KeepI q zs (k + 1) k zs := by
  refine ⟨rfl, Nat.lt_succ_self k, ?_, fun t _ => rfl⟩
  have e : zs[k]? = some zs[k] := List.getElem?_eq_getElem hlt
  rw [take_no e (hd _ e)]
  symm
  rw [List.filter_eq_self]
  intro l hl
  obtain ⟨j, hj, rfl⟩ := List.mem_iff_getElem.1 hl
  rw [List.length_take] at hj
  refine hk j (by omega) _ ?_
  rw [List.getElem_take, List.getElem?_eq_getElem]
theorem KeepI.len {q : Ln → Bool} {zs L : List Ln} {j i : Nat} (h : KeepI q zs j i L) (hj : j ≤ zs.length) : i = ((zs.take j).filter q).length := by
  rw [← h.2.2.1, List.length_take, h.1]; have := h.2.1; omega
theorem KeepI.keep {q : Ln → Bool} {zs L : List Ln} {j i : Nat} {l : Ln} (h : KeepI q zs j i L) (hz : zs[j]? = some l) (hq : q l = true) : KeepI q zs (j + 1) (i + 1) (L.set i l) := by
  obtain ⟨h1, h2, h3, h4⟩ := h
  have hjl : j < zs.length := (List.getElem?_eq_some_iff.1 hz).1
  refine ⟨by rw [List.length_set]; exact h1, by omega, ?_, fun t ht => ?_⟩
  · rw [take_yes hz hq, ← h3, List.take_add_one, List.getElem?_set_self (by omega), List.take_set_of_le (Nat.le_refl i)]; rfl
  · rw [List.getElem?_set_ne (by omega)]; exact h4 t (by omega)
theorem KeepI.skip {q : Ln → Bool} {zs L : List Ln} {j i : Nat} {l : Ln} (h : KeepI q zs j i L) (hz : zs[j]? = some l) (hq : q l = false) : KeepI q zs (j + 1) i L := by
  obtain ⟨h1, h2, h3, h4⟩ := h
  exact ⟨h1, by omega, by rw [take_no hz hq]; exact h3, fun t ht => h4 t (by omega)⟩

set_option maxRecDepth 100000 in
set_option maxHeartbeats 4000000 in
theorem delF_any (lo g n c : Nat) (zs : List Ln) (x y u v : Int) (w : World) (h : OwnN w lo (some ⟨g, 0, none⟩) n c zs) (hlo : lo ≤ w.heap.size) (hn : n ≤ 1000) (hco : ∀ l ∈ zs, CoL l) (hx : Co x) (hy : Co y) (hu : Co u) (hv : Co v) :
    Calls Tryz.prog 73 #[.slice (some ⟨g, 0, none⟩) n c, .func (.func 75) #[lnv x y u v] #[]] w fun e w' =>
      ∃ m, e = .returned (.slice (some ⟨g, 0, none⟩) m c) ∧ OwnN w' lo (some ⟨g, 0, none⟩) m c (zs.filter fun l => !meetS ((x, y), (u, v)) l) ∧ Below lo w w' := by
  have HX := Lib.hid hx; have HY := Lib.hid hy; have HU := Lib.hid hu; have HV := Lib.hid hv; have HCO := Lib.hid hco; have HO := Lib.hid h; have HLO := Lib.hid hlo
  have hf : lo ≤ g ∧ g < w.heap.size ∧ n ≤ c := by
    rcases h.form with ⟨h0, _⟩ | ⟨g', h0, h1, h2, h3, _⟩
    · cases h0
    · injection h0 with h0
      injection h0 with h0
      subst h0
      exact ⟨h1, h2, h3⟩
  have HL := Lib.hid h.len; have HLG := Lib.hid hf.1; have HG := Lib.hid hf.2.1
  have hnc := hf.2.2
  clear hx hy hu hv hco h hlo hf
  go_enter Tryz.func73, Tryz.ntmps73
  go_wp2_with fail
  refine (idxF_any g 0 n c zs x y u v _ (RdN.own HO.out hn HG.out) HCO.out HX.out HY.out HU.out HV.out).mono ?_
  rintro e w1 ⟨ix, rfl, hcase, hb⟩
  have O1 := Lib.hid (HO.out.keep hb)
  have B1 := Lib.hid (hb.mono HLO.out)
  have G1 := Lib.hid (Nat.lt_of_lt_of_le HG.out hb.size)
  clear hb
  rcases hcase with ⟨rfl, hno⟩ | ⟨k, rfl, hk, hno, hyes⟩
  · have HE := Lib.hid (show (zs.filter fun l => !meetS ((x, y), (u, v)) l) = zs by
      rw [List.filter_eq_self]
      intro l hl
      obtain ⟨j, hj⟩ := List.mem_iff_getElem?.1 hl
      rw [hno j (by have := (List.getElem?_eq_some_iff.1 hj).1; have := HL.out; omega) l hj]; rfl)
    clear hno
    go_wp2
    go_ret
    exact ⟨n, rfl, by rw [HE.out]; exact O1.out, B1.out⟩
  · have HI0 := Lib.hid (KeepI.start (q := fun l => !meetS ((x, y), (u, v)) l) (fun j hj l hl => by simp only [hno j hj l hl]; rfl) (by rw [HL.out]; exact hk) (fun l hl => by simp only [hyes l hl]; rfl))
    have hne1 : ((k : Int) == -1) = false := beq_eq_false_iff_ne.2 (by omega)
    clear hno hyes
    go_wp2
    go_loopw [5, 6, 7] (fun s5 s6 _ wr => ∃ (i j : Nat) (L : List Ln), s5 = .int .i64 i ∧ s6 = .int .i64 j ∧ j ≤ n ∧ OwnN wr lo (some ⟨g, 0, none⟩) n c L ∧ Below lo w wr ∧ lo ≤ wr.heap.size ∧ KeepI (fun l => !meetS ((x, y), (u, v)) l) zs j i L) (fun _ s6 _ _ => n - (intOf s6).toNat)
    case atStart => exact ⟨k, k + 1, zs, rfl, by go_num, by omega, O1.out, B1.out, Nat.le_trans HLO.out B1.out.size, HI0.out⟩
    case round =>
      obtain ⟨i, j, L, rfl, rfl, hj, hown, hbw, hlw, hki⟩ := hrel
      have HOW := Lib.hid hown; have HB := Lib.hid hbw; have HLW := Lib.hid hlw; have HK := Lib.hid hki
      have hij := hki.2.1
      have i0 : (0 : Int) ≤ (i : Int) := by omega
      by_cases hlt : j < n
      · obtain ⟨⟨⟨s, t⟩, p, q⟩, hz⟩ : ∃ z, zs[j]? = some z := ⟨_, List.getElem?_eq_getElem (by rw [HL.out]; exact hlt)⟩
        have HZ := Lib.hid hz
        have hc := HCO.out _ (List.mem_of_getElem? hz)
        have HS := Lib.hid hc.1.1; have HT := Lib.hid hc.1.2; have HP := Lib.hid hc.2.1; have HQ := Lib.hid hc.2.2
        obtain ⟨c0, c1, c2, c3⟩ := line_at hown ((hki.2.2.2 j (Nat.le_refl j)).trans hz)
        simp only at c0 c1 c2 c3
        have j0 : (0 : Int) ≤ (j : Int) := by omega
        have jn : (j : Int) < (n : Int) := by omega
        have inn : (i : Int) < (n : Int) := by omega
        clear hz hc hown hbw hlw hki
        go_wp2_with fail
        obtain ⟨wz, hwz⟩ : ∃ wz, wz = wr.alloc (.cells #[.int .i64 s, .int .i64 t, .int .i64 p, .int .i64 q] 68) := ⟨_, rfl⟩
        obtain ⟨gz, hgz⟩ : ∃ gz, gz = wr.heap.size := ⟨_, rfl⟩
        have hb : Below wr.heap.size wr wz := by rw [hwz]; exact below_new (Below.refl _ _) _
        have z0 : wz.cell? ⟨gz, 0, none⟩ = some (.int .i64 s) := by rw [hwz, hgz]; go_simp
        have z1 : wz.cell? ⟨gz, 1, none⟩ = some (.int .i64 t) := by rw [hwz, hgz]; go_simp
        have z2 : wz.cell? ⟨gz, 2, none⟩ = some (.int .i64 p) := by rw [hwz, hgz]; go_simp
        have z3 : wz.cell? ⟨gz, 3, none⟩ = some (.int .i64 q) := by rw [hwz, hgz]; go_simp
        have zl : gz < wz.heap.size := by rw [hwz, hgz]; simp
        rw [← hwz]
        (try rw [← hgz])
        clear hwz hgz c0 c1 c2 c3
        replace HOW := Lib.hid (HOW.out.keep hb); replace HB := Lib.hid (HB.out.trans (hb.mono HLW.out)); replace HLW := Lib.hid (Nat.le_trans HLW.out hb.size); clear hb
        cases hm : meetS ((x, y), (u, v)) ((s, t), (p, q)) with
        | true =>
          have HM := Lib.hid hm
          clear hm z0 z1 z2 z3 zl
          refine (meets_any x y u v s t p q _ HX.out HY.out HU.out HV.out HS.out HT.out HP.out HQ.out).mono ?_
          rw [HM.out]
          rintro e wx ⟨rfl, hb⟩
          replace HOW := Lib.hid (HOW.out.keep hb); replace HB := Lib.hid (HB.out.trans (hb.mono HLW.out)); replace HLW := Lib.hid (Nat.le_trans HLW.out hb.size); clear hb
          go_wp2
          go_roundw
          case rel => exact ⟨i, j + 1, L, rfl, by go_num, by omega, HOW.out, HB.out, HLW.out, HK.out.skip HZ.out (by simp only [HM.out]; rfl)⟩
          case measure => simp [intOf]; omega
        | false =>
          have HM := Lib.hid hm
          clear hm
          refine (meets_any x y u v s t p q _ HX.out HY.out HU.out HV.out HS.out HT.out HP.out HQ.out).mono ?_
          rw [HM.out]
          rintro e wx ⟨rfl, hb⟩
          replace z0 := cell_keep z0 zl hb; replace z1 := cell_keep z1 zl hb; replace z2 := cell_keep z2 zl hb; replace z3 := cell_keep z3 zl hb
          replace HOW := Lib.hid (HOW.out.keep hb); replace HB := Lib.hid (HB.out.trans (hb.mono HLW.out)); replace HLW := Lib.hid (Nat.le_trans HLW.out hb.size); clear hb
          obtain ⟨⟨⟨e0, e1⟩, e2, e3⟩, he⟩ : ∃ z, L[i]? = some z := ⟨_, List.getElem?_eq_getElem (by have := HK.out.1; have := HL.out; omega)⟩
          obtain ⟨t0, t1, t2, t3⟩ := line_at HOW.out he
          simp only at t0 t1 t2 t3
          have f0 := HOW.out.frozen (i * 4); have f1 := HOW.out.frozen (i * 4 + 1); have f2 := HOW.out.frozen (i * 4 + 2); have f3 := HOW.out.frozen (i * 4 + 3)
          clear he zl
          go_wp2
          go_roundw
          case rel =>
            have hs := OwnN.stored HOW.out (i := i) (by omega) ((s, t), (p, q))
            exact ⟨i + 1, j + 1, L.set i ((s, t), (p, q)), by go_num, by go_num, by omega, hs.1, HB.out.grown hs.2 HLW.out (fun g' e => by injection e with e; subst e; exact HLG.out), Nat.le_trans HLW.out hs.2.size, HK.out.keep HZ.out (by simp only [HM.out]; rfl)⟩
          case measure => simp [intOf]; omega
      · have hjn : j = n := by omega
        have jn : ¬ (j : Int) < (n : Int) := by omega
        have inn : (i : Int) < (n : Int) := by omega
        have hz : ∀ w', (zeroValue 68).run Tryz.prog w' = .ok (.agg #[.int .i64 0, .int .i64 0, .int .i64 0, .int .i64 0]) w' := fun _ => by kernel_rfl
        have hcl : ∀ ty, (Builtin.clear_ #[70] ty #[.slice (some ⟨g, i * 4, none⟩) (n - i) (c - i)]).run Tryz.prog wr = .ok (.tuple #[]) (wr.setCells g (i * 4) (List.replicate ((n - i) * 4) (.int .i64 0))) := fun ty =>
          run_clear_lines wr _ _ ty Tryz.underlying70 hz g (i * 4) (n - i) (c - i) (by omega)
            (fun r hr => by
              obtain ⟨l, hl⟩ : ∃ l, L[i + r / 4]? = some l := ⟨_, List.getElem?_eq_getElem (by have := HK.out.1; have := HL.out; omega)⟩
              obtain ⟨p0, p1, p2, p3⟩ := line_at hown hl
              have : r % 4 = 0 ∨ r % 4 = 1 ∨ r % 4 = 2 ∨ r % 4 = 3 := by omega
              rcases this with e | e | e | e
              · rw [show i * 4 + r = (i + r / 4) * 4 by omega, p0]; rfl
              · rw [show i * 4 + r = (i + r / 4) * 4 + 1 by omega, p1]; rfl
              · rw [show i * 4 + r = (i + r / 4) * 4 + 2 by omega, p2]; rfl
              · rw [show i * 4 + r = (i + r / 4) * 4 + 3 by omega, p3]; rfl)
            (fun r _ => hown.frozen _)
        clear hown hbw hlw hki hz
        go_wp2
        go_ret
        have hcut := HOW.out.cut encN_len (m := i) (by omega)
        have hcb := OwnK.cells_behind (List.replicate ((n - i) * 4) (.int .i64 0)) (i * 4) encN_len hcut (Nat.le_refl _)
        have e : L.take i = zs.filter fun l => !meetS ((x, y), (u, v)) l := by rw [HK.out.2.2.1, List.take_of_length_le (by rw [HL.out]; omega)]
        rw [e] at hcb
        exact ⟨i, rfl, hcb.1, HB.out.grown hcb.2 HLW.out (fun g' e => by injection e with e; subst e; exact HLG.out)⟩

end Go.Proofs.YtbpgkigoboobeaaGreat

namespace Go.Proofs.YtbpgkigoboobeaaGreat
open Go.RowKit

theorem RdN.keepL {w w' : World} {lo b off n : Nat} {zs : List Ln} (h : RdN w b off n zs) (hb : Below lo w w') (hl : b < lo) : RdN w' b off n zs := by
  obtain ⟨h1, h2, h3, h4⟩ := h
  refine ⟨h1, h2, Nat.lt_of_lt_of_le h3 hb.size, fun k l hk => ?_⟩
  obtain ⟨c0, c1, c2, c3⟩ := h4 k l hk
  exact ⟨(hb.cell (p := ⟨b, off + k * 4, none⟩) hl).trans c0, (hb.cell (p := ⟨b, off + k * 4 + 1, none⟩) hl).trans c1, (hb.cell (p := ⟨b, off + k * 4 + 2, none⟩) hl).trans c2, (hb.cell (p := ⟨b, off + k * 4 + 3, none⟩) hl).trans c3⟩
theorem own_emptyN (w : World) (lo : Nat) (h : lo ≤ w.heap.size) : OwnN (w.alloc (.cells #[] 68)) lo (some ⟨w.heap.size, 0, none⟩) 0 0 [] :=
  ⟨rfl, World.ownsRow_made (base := lo) (e := 68) (size := 4) w #[] 0 h (Nat.zero_le _) rfl⟩
theorem RdN.cells {w : World} {b off n : Nat} {zs : List Ln} (h : RdN w b off n zs) : ∀ j u, (zs.flatMap encN)[j]? = some u → w.cell? (Addr.add ⟨b, off, none⟩ j) = some u := fun j u hj => by
  have hlt := (List.getElem?_eq_some_iff.1 hj).1
  rw [flat_len encN_len] at hlt
  have hi : j / 4 < zs.length := by omega
  have hx : zs[j / 4]? = some zs[j / 4] := List.getElem?_eq_getElem hi
  obtain ⟨c0, c1, c2, c3⟩ := h.2.2.2 _ _ hx
  have e := flat_at encN_len zs hx (j := j % 4) (by omega)
  rw [show j / 4 * 4 + j % 4 = j by omega] at e
  rw [e] at hj
  rw [Addr.add_lit]
  have : j % 4 = 0 ∨ j % 4 = 1 ∨ j % 4 = 2 ∨ j % 4 = 3 := by omega
  rcases this with e | e | e | e
  · rw [e] at hj; injection hj with hj; subst hj; rw [show off + j = off + j / 4 * 4 by omega]; exact c0
  · rw [e] at hj; injection hj with hj; subst hj; rw [show off + j = off + j / 4 * 4 + 1 by omega]; exact c1
  · rw [e] at hj; injection hj with hj; subst hj; rw [show off + j = off + j / 4 * 4 + 2 by omega]; exact c2
  · rw [e] at hj; injection hj with hj; subst hj; rw [show off + j = off + j / 4 * 4 + 3 by omega]; exact c3

set_option maxRecDepth 100000 in
set_option maxHeartbeats 2000000 in
theorem cloneN_any (b off n c : Nat) (zs : List Ln) (w : World) (h : RdN w b off n zs) :
    Calls Tryz.prog 74 #[.slice (some ⟨b, off, none⟩) n c] w fun e w' => ∃ A' c', e = .returned (.slice A' n c') ∧ OwnN w' w.heap.size A' n c' zs ∧ Below w.heap.size w w' := by
  obtain ⟨i0, hi, hz0, hz1, hz2⟩ := info_parts infoN
  have HI := Lib.hid hi; have HZ0 := Lib.hid hz0; have HZ1 := Lib.hid hz1; have HZ2 := Lib.hid hz2
  have HR := Lib.hid h; have HN := Lib.hid h.2.1; have HL := Lib.hid h.1
  clear hi hz0 hz1 hz2 h
  have HY := Lib.hid (HR.out.keep ((Below.refl _ _).alloc (Nat.le_refl _) (.cells #[] 68))).cells
  have hq : ∀ w', Sem.run Tryz.prog (binOp .eql 70 (.slice (some ⟨b, off, none⟩) n c) (.slice none 0 0)) w' = .ok (.bool false) w' := fun w' => Lib.run_eql_slice_nil w' _ _ _ _ _ _ _ Tryz.underlying70
  go_enter Tryz.func74, Tryz.ntmps74
  go_wp2_with (at_builtin; refine wpList_appK (enc := encN) (k := 4) (E := 68) rfl (.tmp 5) (.tmp 6) 70 rfl i0 (.agg #[.int .i64 0, .int .i64 0, .int .i64 0, .int .i64 0]) 32 Tryz.underlying70 HI.out HZ0.out HZ1.out HZ2.out rfl (by decide) (by decide) encN_len encN_one zs ⟨b, off, none⟩ n c (by rfl) (own_emptyN w w.heap.size (Nat.le_refl _)) (by rfl) HL.out HY.out (by have := HN.out; omega) (by simp) ?_; intro A9 c9 w9 hown hg hb)
  rw [Nat.zero_add, List.nil_append] at hown
  have O := Lib.hid hown
  have B := Lib.hid ((below_new (Below.refl w.heap.size w) (.cells #[] 68)).trans hb)
  clear hown hg hb HY
  (try simp only [Nat.zero_add])
  go_wp2
  go_ret
  exact ⟨A9, c9, rfl, O.out, B.out⟩

set_option maxRecDepth 100000 in
set_option maxHeartbeats 2000000 in
theorem idxF_none (x y u v : Int) (w : World) :
    Calls Tryz.prog 96 #[.slice none 0 0, .func (.func 75) #[lnv x y u v] #[]] w fun e w' => e = .returned (.int .i64 (-1)) ∧ Below w.heap.size w w' := by
  go_enter Tryz.func96, Tryz.ntmps96
  go_wp2
  go_loopw [5, 8] (fun _ i wr => i = .int .i64 0 ∧ Below w.heap.size w wr) (fun _ _ _ => 0)
  case atStart => exact ⟨rfl, Below.refl _ _⟩
  case round =>
    obtain ⟨rfl, hbw⟩ := hrel
    have HB := Lib.hid hbw
    clear hbw
    go_wp2
    go_ret
    exact ⟨rfl, HB.out⟩
set_option maxRecDepth 100000 in
set_option maxHeartbeats 2000000 in
theorem delF_none (x y u v : Int) (w : World) :
    Calls Tryz.prog 73 #[.slice none 0 0, .func (.func 75) #[lnv x y u v] #[]] w fun e w' => e = .returned (.slice none 0 0) ∧ Below w.heap.size w w' := by
  go_enter Tryz.func73, Tryz.ntmps73
  go_wp2_with fail
  refine (idxF_none x y u v _).mono ?_
  rintro e w1 ⟨rfl, hb⟩
  have B := Lib.hid hb
  clear hb
  go_wp2
  go_ret
  exact ⟨rfl, B.out⟩
theorem delF_all (lo : Nat) (A : Option Addr) (n c : Nat) (zs : List Ln) (x y u v : Int) (w : World) (h : OwnN w lo A n c zs) (hlo : lo ≤ w.heap.size) (hn : n ≤ 1000) (hco : ∀ l ∈ zs, CoL l) (hx : Co x) (hy : Co y) (hu : Co u) (hv : Co v) :
    Calls Tryz.prog 73 #[.slice A n c, .func (.func 75) #[lnv x y u v] #[]] w fun e w' =>
      ∃ m A' c', e = .returned (.slice A' m c') ∧ OwnN w' lo A' m c' (zs.filter fun l => !meetS ((x, y), (u, v)) l) ∧ Below lo w w' := by
  rcases h.form with ⟨rfl, rfl, rfl, rfl⟩ | ⟨g, rfl, _⟩
  · refine (delF_none x y u v w).mono ?_
    rintro e w1 ⟨rfl, hb⟩
    exact ⟨0, none, 0, rfl, OwnK.none_ _ _ _ _ _, hb.mono hlo⟩
  · refine (delF_any lo g n c zs x y u v w h hlo hn hco hx hy hu hv).mono ?_
    rintro e w1 ⟨m, rfl, ho, hb⟩
    exact ⟨m, _, c, rfl, ho, hb⟩

end Go.Proofs.YtbpgkigoboobeaaGreat

namespace Go.Proofs.YtbpgkigoboobeaaGreat
open Go.RowKit

/-- What a row of lines must be where it has any. -/
def LinesAt (w : World) (A : Option Addr) (n : Nat) (zs : List Ln) : Prop := 0 < n → ∃ b off, A = some ⟨b, off, none⟩ ∧ RdN w b off n zs
theorem LinesAt.own {w : World} {lo : Nat} {A : Option Addr} {n c : Nat} {zs : List Ln} (h : OwnN w lo A n c zs) (hn : n ≤ 1000) : LinesAt w A n zs := fun h0 => by
  rcases h.form with ⟨_, e, _⟩ | ⟨g, rfl, _, hg, _⟩
  · omega
  · exact ⟨g, 0, rfl, RdN.own h hn hg⟩
theorem own_capN {w : World} {lo : Nat} {A : Option Addr} {n c : Nat} {zs : List Ln} (h : OwnN w lo A n c zs) : n ≤ c := by
  rcases h.form with ⟨_, e, _⟩ | ⟨g, _, _, _, hc, _⟩
  · omega
  · exact hc

set_option maxRecDepth 100000 in
set_option maxHeartbeats 8000000 in
theorem mostApart_any : ∀ (N : Nat) (A : Option Addr) (n c : Nat) (zs : List Ln) (w : World), n ≤ N → zs.length = n → n ≤ 1000 → LinesAt w A n zs → n ≤ c → (∀ l ∈ zs, CoL l) →
    Calls Tryz.prog 45 #[.slice A n c] w fun e w' => e = .returned (.int .i64 (mxA meetS zs : Int)) ∧ Below w.heap.size w w' := by
  intro N
  induction N with
  | zero =>
    intro A n c zs w hN hl hn hat hc hco
    obtain rfl : n = 0 := by omega
    obtain rfl : zs = [] := List.length_eq_zero_iff.1 hl
    clear hat hco
    go_enter Tryz.func45, Tryz.ntmps45
    go_wp2
    go_ret
    exact ⟨ret_int (by rw [mxA_nil]; rfl), Below.refl _ _⟩
  | succ N ih =>
    intro A n c zs w hN hl hn hat hc hco
    rcases zs with _ | ⟨⟨⟨x, y⟩, u, v⟩, zt⟩
    · obtain rfl : n = 0 := by simpa using hl.symm
      clear hat hco
      go_enter Tryz.func45, Tryz.ntmps45
      go_wp2
      go_ret
      exact ⟨ret_int (by rw [mxA_nil]; rfl), Below.refl _ _⟩
    · obtain ⟨n1, rfl⟩ : ∃ n1, n = n1 + 1 := ⟨zt.length, by simpa using hl.symm⟩
      obtain ⟨b, off, rfl, hr⟩ := hat (Nat.succ_pos n1)
      have BL := Lib.hid hr.2.2.1
      have HTL := Lib.hid (show zt.length = n1 by simpa using hl)
      have hcase : ∃ o3, RdN w b o3 n1 zt ∧ ((c = 1 ∧ off = o3) ∨ (¬ c = 1 ∧ off + 4 = o3)) := by
        by_cases h : c = 1
        · have e : n1 = 0 := by omega
          subst e
          obtain rfl : zt = [] := List.length_eq_zero_iff.1 HTL.out
          exact ⟨off, ⟨rfl, by omega, BL.out, fun k l hk => by simp at hk⟩, Or.inl ⟨h, rfl⟩⟩
        · exact ⟨off + 4, hr.tail, Or.inr ⟨h, rfl⟩⟩
      obtain ⟨o3, hrt, hcase⟩ := hcase
      have RT := Lib.hid hrt
      clear hrt
      have IH := Lib.hid ih
      have hc0 := hco _ (List.mem_cons_self)
      have HX := Lib.hid hc0.1.1; have HY := Lib.hid hc0.1.2; have HU := Lib.hid hc0.2.1; have HV := Lib.hid hc0.2.2
      have HCT := Lib.hid (show ∀ l ∈ zt, CoL l from fun l h => hco l (List.mem_cons_of_mem _ h))
      obtain ⟨c0, c1, c2, c3⟩ := hr.2.2.2 0 _ rfl
      simp only [Nat.zero_mul, Nat.add_zero] at c0 c1 c2 c3
      have B := Lib.hid (Below.refl w.heap.size w)
      have h0 : (((n1 + 1 : Nat) : Int) == 0) = false := beq_eq_false_iff_ne.2 (by omega)
      have h1 : (1 : Int) ≤ ((n1 + 1 : Nat) : Int) := by omega
      have hp : (0 : Int) < ((n1 + 1 : Nat) : Int) := by omega
      clear hat hco hr hc0 ih hl
      rcases hcase with ⟨hc1, rfl⟩ | ⟨hc1, rfl⟩
      all_goals
        go_enter Tryz.func45, Tryz.ntmps45
        go_upto_region 4 with fail
        (first | rw [if_pos hc1] | rw [if_neg hc1] | skip)
        refine wp_region_held_drew (S := fun w' => w'.cell? ⟨b, off, none⟩ = some (.int .i64 x) ∧ w'.cell? ⟨b, off + 1, none⟩ = some (.int .i64 y) ∧ w'.cell? ⟨b, off + 2, none⟩ = some (.int .i64 u) ∧ w'.cell? ⟨b, off + 3, none⟩ = some (.int .i64 v)) (by kernel_rfl) ?_ (fun hHeld => ?_)
        · (try dsimp only)
          exact ⟨c0, c1, c2, c3⟩
        refine wpAnyH_take (i := 0) (oi := ⟨_, _, _, _, _, _⟩) (v := ?_) rfl (by kernel_rfl) (by kernel_rfl) (by kernel_rfl) (fun _ _ _ h => h) (Or.inl ⟨by rfl, ?_⟩) (by assumption) ?_
        rotate_left
        · intro w hSw
          (try dsimp only at hSw)
          go_simp
          (try with_reducible rfl)
        (try simp only [Act.put, List.setIfInBounds_toArray, List.set_cons_zero, List.set_cons_succ])
        refine wpAnyH_take (i := 2) (oi := ⟨_, _, _, _, _, _⟩) (v := ?_) rfl (by kernel_rfl) (by kernel_rfl) (by kernel_rfl) (fun _ _ _ h => h) (Or.inl ⟨by rfl, ?_⟩) (by assumption) ?_
        rotate_left
        · intro w hSw
          (try dsimp only at hSw)
          go_simp
          (try with_reducible rfl)
        (try simp only [Act.put, List.setIfInBounds_toArray, List.set_cons_zero, List.set_cons_succ])
        refine wpAnyH_take (i := 3) (oi := ⟨_, _, _, _, _, _⟩) (v := ?_) rfl (by kernel_rfl) (by kernel_rfl) (by kernel_rfl) (fun _ _ _ h => h) (Or.inl ⟨by rfl, ?_⟩) (by assumption) ?_
        rotate_left
        · intro w hSw
          (try dsimp only at hSw)
          go_simp
          (try with_reducible rfl)
        (try simp only [Act.put, List.setIfInBounds_toArray, List.set_cons_zero, List.set_cons_succ])
        refine wpAnyH_take (i := 4) (oi := ⟨_, _, _, _, _, _⟩) (v := ?_) rfl (by kernel_rfl) (by kernel_rfl) (by kernel_rfl) (fun _ _ _ h => h) (Or.inl ⟨by rfl, ?_⟩) (by assumption) ?_
        rotate_left
        · intro w hSw
          (try dsimp only at hSw)
          go_simp
          (try with_reducible rfl)
        (try simp only [Act.put, List.setIfInBounds_toArray, List.set_cons_zero, List.set_cons_succ])
        refine wpAnyH_take (i := 5) (oi := ⟨_, _, _, _, _, _⟩) (v := ?_) rfl (by kernel_rfl) (by kernel_rfl) (by kernel_rfl) (fun _ _ _ h => h) (Or.inl ⟨by rfl, ?_⟩) (by assumption) ?_
        rotate_left
        · intro w hSw
          (try dsimp only at hSw)
          go_simp
          (try with_reducible rfl)
        (try simp only [Act.put, List.setIfInBounds_toArray, List.set_cons_zero, List.set_cons_succ])
        refine wpAnyH_ready (rs := [1]) (by kernel_rfl) (by simp) ?_
        refine AllReadyH.cons (o := ⟨_, _, _, _, _, _⟩) rfl (fun K hK => ?_) AllReadyH.nil
        go_simp
        (go_at_call 74; refine (cloneN_any b _ n1 _ zt _ RT.out.drew1).mono ?_; rintro e wc ⟨A4, c4, rfl, hcl, hb⟩; (repeat (first | replace hb := below_undrew hb | replace hb := below_undrewN hb)); have OC := Lib.hid (OwnK.lower hcl (show w.heap.size ≤ _ from B.out.size)); replace hb := hb.mono B.out.size; clear hcl; replace c0 := (hb.cell (p := ⟨b, off, none⟩) BL.out).trans c0; replace c1 := (hb.cell (p := ⟨b, off + 1, none⟩) BL.out).trans c1; replace c2 := (hb.cell (p := ⟨b, off + 2, none⟩) BL.out).trans c2; replace c3 := (hb.cell (p := ⟨b, off + 3, none⟩) BL.out).trans c3; replace RT := Lib.hid (RT.out.keepL hb BL.out); replace B := Lib.hid (B.out.trans hb); clear hb)
        (try go_wp2_with fail)
        refine hK.out _ _ ?_ (fun hHeld => ?_)
        · (try dsimp only)
          exact ⟨c0, c1, c2, c3⟩
        clear hK K
        (try simp only [Act.put, List.setIfInBounds_toArray, List.set_cons_zero, List.set_cons_succ])
        refine wpAnyH_ready (rs := [6]) (by kernel_rfl) (by simp) ?_
        refine AllReadyH.cons (o := ⟨_, _, _, _, _, _⟩) rfl (fun K hK => ?_) AllReadyH.nil
        go_simp
        (go_at_call 73; refine (delF_all w.heap.size A4 n1 c4 zt x y u v _ OC.out B.out.size (by omega) HCT.out HX.out HY.out HU.out HV.out).mono ?_; rintro e wd ⟨m, A5, c5, rfl, hdl, hb⟩; have OD := Lib.hid hdl; clear hdl OC; replace c0 := (hb.cell (p := ⟨b, off, none⟩) BL.out).trans c0; replace c1 := (hb.cell (p := ⟨b, off + 1, none⟩) BL.out).trans c1; replace c2 := (hb.cell (p := ⟨b, off + 2, none⟩) BL.out).trans c2; replace c3 := (hb.cell (p := ⟨b, off + 3, none⟩) BL.out).trans c3; replace RT := Lib.hid (RT.out.keepL hb BL.out); replace B := Lib.hid (B.out.trans hb); clear hb)
        (try go_wp2_with fail)
        refine hK.out _ _ ?_ (fun hHeld => ?_)
        · (try dsimp only)
          exact ⟨c0, c1, c2, c3⟩
        clear hK K
        (try simp only [Act.put, List.setIfInBounds_toArray, List.set_cons_zero, List.set_cons_succ])
        refine wpAnyH_take (i := 7) (oi := ⟨_, _, _, _, _, _⟩) (v := ?_) rfl (by kernel_rfl) (by kernel_rfl) (by kernel_rfl) (fun _ _ _ h => h) (Or.inl ⟨by rfl, ?_⟩) (by assumption) ?_
        rotate_left
        · intro w hSw
          (try dsimp only at hSw)
          go_simp
          (try with_reducible rfl)
        (try simp only [Act.put, List.setIfInBounds_toArray, List.set_cons_zero, List.set_cons_succ])
        refine wpAnyH_done (by kernel_rfl) ?_ _
        have HFL := Lib.hid OD.out.len
        have hml := List.length_filter_le (fun l => !meetS ((x, y), (u, v)) l) zt
        rw [HFL.out, HTL.out] at hml
        have HML := Lib.hid hml
        have hcm := own_capN OD.out
        have HAT := Lib.hid (LinesAt.own OD.out (by omega))
        have HMX := Lib.hid (mxA_le (M := meetS) (zt.filter fun l => !meetS ((x, y), (u, v)) l))
        clear c0 c1 c2 c3
        by_cases hlt : m < n1
        · have hm : (m : Int) < (n1 : Int) := by omega
          go_wp2_with fail
          refine (IH.out A5 m c5 (zt.filter fun l => !meetS ((x, y), (u, v)) l) _ (by omega) HFL.out (by omega) HAT.out hcm (fun l h => HCT.out l (List.mem_filter.1 h).1)).mono ?_
          rintro e we ⟨rfl, hb⟩
          replace hb := hb.mono B.out.size
          replace RT := Lib.hid (RT.out.keepL hb BL.out)
          replace B := Lib.hid (B.out.trans hb)
          have hw1 : IntKind.i64.wrap (1 + (mxA meetS (zt.filter fun l => !meetS ((x, y), (u, v)) l) : Int)) = 1 + (mxA meetS (zt.filter fun l => !meetS ((x, y), (u, v)) l) : Int) := IntWalk.i64_in _ (by have := HMX.out; have := HFL.out; omega)
          clear hb
          go_wp2_with fail
          refine (IH.out (some ⟨b, _, none⟩) n1 _ zt _ (by omega) HTL.out (by omega) (fun _ => ⟨b, _, rfl, RT.out⟩) (by omega) HCT.out).mono ?_
          rintro e wg ⟨rfl, hb⟩
          replace hb := hb.mono B.out.size
          replace B := Lib.hid (B.out.trans hb)
          clear hb
          go_wp2
          go_ret
          exact ⟨ret_int (by rw [mxA_cons]; push_cast; omega), B.out⟩
        · have hm : ¬ (m : Int) < (n1 : Int) := by omega
          go_wp2_with fail
          refine (IH.out A5 m c5 (zt.filter fun l => !meetS ((x, y), (u, v)) l) _ (by omega) HFL.out (by omega) HAT.out hcm (fun l h => HCT.out l (List.mem_filter.1 h).1)).mono ?_
          rintro e we ⟨rfl, hb⟩
          replace hb := hb.mono B.out.size
          replace RT := Lib.hid (RT.out.keepL hb BL.out)
          replace B := Lib.hid (B.out.trans hb)
          have hw1 : IntKind.i64.wrap (1 + (mxA meetS (zt.filter fun l => !meetS ((x, y), (u, v)) l) : Int)) = 1 + (mxA meetS (zt.filter fun l => !meetS ((x, y), (u, v)) l) : Int) := IntWalk.i64_in _ (by have := HMX.out; have := HFL.out; omega)
          clear hb
          go_wp2
          go_ret
          have e9 : (zt.filter fun l => !meetS ((x, y), (u, v)) l).length = zt.length := by rw [HFL.out, HTL.out]; have := HML.out; omega
          have e8 : (zt.filter fun l => !meetS ((x, y), (u, v)) l) = zt := by first | exact List.Sublist.eq_of_length List.filter_sublist e9 | exact List.Sublist.eq_of_length (List.filter_sublist zt) e9
          exact ⟨ret_int (by rw [mxA_free (M := meetS) (p := ((x, y), (u, v))) (t := zt) e9, e8]; push_cast; rfl), B.out⟩

end Go.Proofs.YtbpgkigoboobeaaGreat

namespace Go.Proofs.YtbpgkigoboobeaaGreat
open Go.RowKit

theorem onK_two {W H : Int} {xs : List Int} {a b : Int} : onK W H xs a b [] = twoV W H xs a b := by simp [onK]
theorem mxA_lines (W : Int) : ∀ (N : Nat) (l : List (Int × Int)), l.length ≤ N → (∀ z ∈ l, z.1 < z.2) → mxA meetS (l.map fun z => lnL W z.1 z.2) = mxA (meetB W) l := by
  intro N
  induction N with
  | zero =>
    intro l hl _
    obtain rfl : l = [] := List.length_eq_zero_iff.1 (by omega)
    rw [List.map_nil, mxA_nil, mxA_nil]
  | succ N ih =>
    intro l hl hlt
    rcases l with _ | ⟨p, t⟩
    · rw [List.map_nil, mxA_nil, mxA_nil]
    · have ht : ∀ z ∈ t, z.1 < z.2 := fun z hz => hlt z (List.mem_cons_of_mem _ hz)
      have h1 : t.length ≤ N := by simpa using hl
      have e : t.filter ((fun q => !meetS (lnL W p.1 p.2) q) ∘ fun z => lnL W z.1 z.2) = t.filter fun q => !meetB W p q := List.filter_congr (fun q hq => by
        simp only [Function.comp]
        rw [meet_eq (hlt p List.mem_cons_self) (ht q hq)])
      have h2 := List.length_filter_le (fun q => !meetB W p q) t
      rw [List.map_cons, mxA_cons, mxA_cons, List.filter_map, e, ih _ (by omega) (fun z hz => ht z (List.mem_filter.1 hz).1), ih t h1 ht]

set_option maxRecDepth 100000 in
set_option maxHeartbeats 2000000 in
theorem areLinesSought_any (W H : Int) (A : Option Addr) (n c : Nat) (xs : List Int) (a b : Int) (w : World) (ha : Rd w A n xs) :
    Calls Tryz.prog 44 #[brd W H A n c, lpr a b] w fun e w' => e = .returned (.bool (fewB W H xs a b)) ∧ Below w.heap.size w w' := by
  cases ht : twoV W H xs a b with
  | true =>
    have HT := Lib.hid ht
    have ht2 := Lib.hid (onK_two.trans ht)
    have HG := Lib.hid (two_gK ht)
    clear ht
    go_enter Tryz.func44, Tryz.ntmps44
    go_wp2_with fail
    refine (isLeaperOnK_any W H A n c xs a b none 0 0 [] _ ((ha.alloc _).alloc _) (Rd.nil _ none)).mono ?_
    rw [ht2.out]
    rintro e wv ⟨rfl, hb⟩
    have hbx0 := below_box hb
    have a0 : wv.cell? ⟨w.heap.size, 0, none⟩ = some (.int .i64 W) := by simpa using newbox hbx0 0
    have a1 : wv.cell? ⟨w.heap.size, 1, none⟩ = some (.int .i64 H) := by simpa using newbox hbx0 1
    have a2 : wv.cell? ⟨w.heap.size, 2, none⟩ = some (.slice A n c) := by simpa using newbox hbx0 2
    have al : w.heap.size < wv.heap.size := by simpa using newbox_lt hbx0
    have l0 : wv.cell? ⟨w.heap.size + 1, 0, none⟩ = some (.int .i64 a) := by simpa using newbox hb 0
    have l1 : wv.cell? ⟨w.heap.size + 1, 1, none⟩ = some (.int .i64 b) := by simpa using newbox hb 1
    have ll : w.heap.size + 1 < wv.heap.size := by simpa using newbox_lt hb
    have B := Lib.hid (below_box hbx0)
    clear hb hbx0
    go_wp2_with fail
    refine (cellsThere_any W H A n c xs _ (ha.keep B.out) HG.out).mono ?_
    rintro e w1 ⟨A1, n1, c1, rfl, hst, hb⟩
    have SL := Lib.hid hst.len
    replace a0 := cell_keep a0 al hb
    replace a1 := cell_keep a1 al hb
    replace a2 := cell_keep a2 al hb
    replace al := lt_keep al hb
    replace l0 := cell_keep l0 ll hb
    replace l1 := cell_keep l1 ll hb
    replace ll := lt_keep ll hb
    replace B := Lib.hid (below_next B.out hb)
    clear hb
    go_wp2
    go_ret
    exact ⟨ret_bool (by rw [fewB, HT.out, SL.out]; simp), B.out⟩
  | false =>
    have HT := Lib.hid ht
    have ht2 := Lib.hid (onK_two.trans ht)
    clear ht
    go_enter Tryz.func44, Tryz.ntmps44
    go_wp2_with fail
    refine (isLeaperOnK_any W H A n c xs a b none 0 0 [] _ ((ha.alloc _).alloc _) (Rd.nil _ none)).mono ?_
    rw [ht2.out]
    rintro e wv ⟨rfl, hb⟩
    have hbx0 := below_box hb
    have a0 : wv.cell? ⟨w.heap.size, 0, none⟩ = some (.int .i64 W) := by simpa using newbox hbx0 0
    have a1 : wv.cell? ⟨w.heap.size, 1, none⟩ = some (.int .i64 H) := by simpa using newbox hbx0 1
    have a2 : wv.cell? ⟨w.heap.size, 2, none⟩ = some (.slice A n c) := by simpa using newbox hbx0 2
    have al : w.heap.size < wv.heap.size := by simpa using newbox_lt hbx0
    have l0 : wv.cell? ⟨w.heap.size + 1, 0, none⟩ = some (.int .i64 a) := by simpa using newbox hb 0
    have l1 : wv.cell? ⟨w.heap.size + 1, 1, none⟩ = some (.int .i64 b) := by simpa using newbox hb 1
    have ll : w.heap.size + 1 < wv.heap.size := by simpa using newbox_lt hb
    have B := Lib.hid (below_box hbx0)
    clear hb hbx0
    go_wp2
    go_ret
    exact ⟨ret_bool (by rw [fewB, HT.out]; rfl), B.out⟩

set_option maxRecDepth 100000 in
set_option maxHeartbeats 4000000 in
theorem impl_MostApart (W H : Int) (A : Option Addr) (n c : Nat) (xs : List Int) (a b : Int) (w : World) (ha : Rd w A n xs) :
    Calls Tryz.prog 19 #[brd W H A n c, lpr a b] w fun e w' => e = .returned (.tuple #[.int .i64 (apartV W H xs a b), .bool (okA W H xs a b)]) ∧ Below w.heap.size w w' := by
  by_cases hf : fewB W H xs a b = true
  · have HT := Lib.hid (few_two hf)
    have HG := Lib.hid (two_gK HT.out)
    obtain ⟨hW, hH, _, _⟩ := goodB_iff.1 HG.out
    have HW := Lib.hid hW; have HN := Lib.hid (cells_le hW hH)
    clear hW hH
    by_cases hl : (24 : Int) < ((pairsL W H xs a b).length : Int)
    · have HOK := Lib.hid (show okA W H xs a b = false by rw [okA, decide_eq_true hl]; simp)
      go_enter Tryz.func19, Tryz.ntmps19
      go_wp2_with fail
      refine (areLinesSought_any _ _ _ _ _ _ _ _ _ ((ha.alloc _).alloc _)).mono ?_
      rw [hf]
      rintro e wv ⟨rfl, hb⟩
      have hbx0 := below_box hb
      have a0 : wv.cell? ⟨w.heap.size, 0, none⟩ = some (.int .i64 W) := by simpa using newbox hbx0 0
      have a1 : wv.cell? ⟨w.heap.size, 1, none⟩ = some (.int .i64 H) := by simpa using newbox hbx0 1
      have a2 : wv.cell? ⟨w.heap.size, 2, none⟩ = some (.slice A n c) := by simpa using newbox hbx0 2
      have al : w.heap.size < wv.heap.size := by simpa using newbox_lt hbx0
      have l0 : wv.cell? ⟨w.heap.size + 1, 0, none⟩ = some (.int .i64 a) := by simpa using newbox hb 0
      have l1 : wv.cell? ⟨w.heap.size + 1, 1, none⟩ = some (.int .i64 b) := by simpa using newbox hb 1
      have ll : w.heap.size + 1 < wv.heap.size := by simpa using newbox_lt hb
      have B := Lib.hid (below_box hbx0)
      clear hb hbx0
      go_wp2_with fail
      refine (linesOn_any W H A n c xs a b _ (ha.keep B.out) HG.out (two_leaper HT.out)).mono ?_
      rintro e w3 ⟨A3, n3, c3, rfl, hown, hb⟩
      have ON := Lib.hid hown
      have SL3 := Lib.hid (show (pairsL W H xs a b).length = n3 by have h := hown.len; rw [List.length_map] at h; exact h)
      replace a0 := cell_keep a0 al hb
      replace a1 := cell_keep a1 al hb
      replace a2 := cell_keep a2 al hb
      replace al := lt_keep al hb
      replace l0 := cell_keep l0 ll hb
      replace l1 := cell_keep l1 ll hb
      replace ll := lt_keep ll hb
      replace B := Lib.hid (below_next B.out hb)
      clear hb
      clear hown
      have hc : (24 : Int) < (n3 : Int) := by have := SL3.out; omega
      go_wp2
      go_ret2
      exact ⟨by rw [HOK.out, apartV, HOK.out]; rfl, B.out⟩
    · have HOK := Lib.hid (show okA W H xs a b = true by rw [okA, decide_eq_false hl, hf]; rfl)
      have HLE := Lib.hid (show (pairsL W H xs a b).length ≤ 24 by omega)
      go_enter Tryz.func19, Tryz.ntmps19
      go_wp2_with fail
      refine (areLinesSought_any _ _ _ _ _ _ _ _ _ ((ha.alloc _).alloc _)).mono ?_
      rw [hf]
      rintro e wv ⟨rfl, hb⟩
      have hbx0 := below_box hb
      have a0 : wv.cell? ⟨w.heap.size, 0, none⟩ = some (.int .i64 W) := by simpa using newbox hbx0 0
      have a1 : wv.cell? ⟨w.heap.size, 1, none⟩ = some (.int .i64 H) := by simpa using newbox hbx0 1
      have a2 : wv.cell? ⟨w.heap.size, 2, none⟩ = some (.slice A n c) := by simpa using newbox hbx0 2
      have al : w.heap.size < wv.heap.size := by simpa using newbox_lt hbx0
      have l0 : wv.cell? ⟨w.heap.size + 1, 0, none⟩ = some (.int .i64 a) := by simpa using newbox hb 0
      have l1 : wv.cell? ⟨w.heap.size + 1, 1, none⟩ = some (.int .i64 b) := by simpa using newbox hb 1
      have ll : w.heap.size + 1 < wv.heap.size := by simpa using newbox_lt hb
      have B := Lib.hid (below_box hbx0)
      clear hb hbx0
      go_wp2_with fail
      refine (linesOn_any W H A n c xs a b _ (ha.keep B.out) HG.out (two_leaper HT.out)).mono ?_
      rintro e w3 ⟨A3, n3, c3, rfl, hown, hb⟩
      have ON := Lib.hid hown
      have SL3 := Lib.hid (show (pairsL W H xs a b).length = n3 by have h := hown.len; rw [List.length_map] at h; exact h)
      replace a0 := cell_keep a0 al hb
      replace a1 := cell_keep a1 al hb
      replace a2 := cell_keep a2 al hb
      replace al := lt_keep al hb
      replace l0 := cell_keep l0 ll hb
      replace l1 := cell_keep l1 ll hb
      replace ll := lt_keep ll hb
      replace B := Lib.hid (below_next B.out hb)
      clear hb
      clear hown
      have hc : ¬ (24 : Int) < (n3 : Int) := by have := SL3.out; omega
      have n24 : n3 ≤ 24 := by have := SL3.out; have := HLE.out; omega
      have HCO := Lib.hid (show ∀ l ∈ (pairsL W H xs a b).map (fun z => lnL W z.1 z.2), CoL l from fun l hl => by
        obtain ⟨z, hz, rfl⟩ := List.mem_map.1 hl
        have h := pairsL_mem HN.out hz
        have hn := HN.out
        exact co_line HW.out (by omega) (by omega))
      go_wp2_with fail
      refine (mostApart_any n3 A3 n3 c3 _ _ (Nat.le_refl _) ON.out.len (by omega) (LinesAt.own ON.out (by omega)) (own_capN ON.out) HCO.out).mono ?_
      rintro e w5 ⟨rfl, hb⟩
      replace B := Lib.hid (below_next B.out hb)
      clear hb
      have e9 := mxA_lines W _ (pairsL W H xs a b) (Nat.le_refl _) (fun z hz => (pairsL_mem HN.out hz).1)
      rw [e9]
      go_wp2
      go_ret2
      exact ⟨by rw [HOK.out, apartV, if_pos HOK.out]; rfl, B.out⟩
  · have hf' : fewB W H xs a b = false := by simpa using hf
    go_enter Tryz.func19, Tryz.ntmps19
    go_wp2_with fail
    refine (areLinesSought_any _ _ _ _ _ _ _ _ _ ((ha.alloc _).alloc _)).mono ?_
    rw [hf']
    rintro e wv ⟨rfl, hb⟩
    have hbx0 := below_box hb
    have a0 : wv.cell? ⟨w.heap.size, 0, none⟩ = some (.int .i64 W) := by simpa using newbox hbx0 0
    have a1 : wv.cell? ⟨w.heap.size, 1, none⟩ = some (.int .i64 H) := by simpa using newbox hbx0 1
    have a2 : wv.cell? ⟨w.heap.size, 2, none⟩ = some (.slice A n c) := by simpa using newbox hbx0 2
    have al : w.heap.size < wv.heap.size := by simpa using newbox_lt hbx0
    have l0 : wv.cell? ⟨w.heap.size + 1, 0, none⟩ = some (.int .i64 a) := by simpa using newbox hb 0
    have l1 : wv.cell? ⟨w.heap.size + 1, 1, none⟩ = some (.int .i64 b) := by simpa using newbox hb 1
    have ll : w.heap.size + 1 < wv.heap.size := by simpa using newbox_lt hb
    have B := Lib.hid (below_box hbx0)
    clear hb hbx0
    go_wp2
    go_ret2
    exact ⟨by rw [apartV, okA, hf']; rfl, B.out⟩

end Go.Proofs.YtbpgkigoboobeaaGreat

namespace Go.Proofs.YtbpgkigoboobeaaGreat
open Go.RowKit

set_option maxHeartbeats 4000000 in
set_option maxRecDepth 100000 in
theorem law_MostApart (w : World) (V0 G0 : Int) (A0 : Option Addr) (n0 c0 : Nat) (xs0 : List Int) (ha0 : Rd w A0 n0 xs0) (la1 lb1 : Int) :
    Calls Tryz.prog 5 #[brd V0 G0 A0 n0 c0, lpr la1 lb1] w fun e w' => e = .returned (.bool true) ∧ Below w.heap.size w w' := by
  have hn9 := ha0.2.1
  by_cases hnB : (n0 : Int) ≤ 1048576
  rotate_left
  · go_enter Tryz.func5, Tryz.ntmps5
    go_wp2_with fail
    refine (szBoard_any _ _ _ _ _ _ _ hn9 (by omega) (by omega)).mono ?_
    rintro e wv ⟨rfl, hb⟩
    have B := Lib.hid (below_box (below_box hb))
    clear hb
    go_wp2
    go_ret
    exact ⟨rfl, B.out⟩
  · go_enter Tryz.func5, Tryz.ntmps5
    go_wp2_with fail
    refine (szBoard_any _ _ _ _ _ _ _ hn9 (by omega) (by omega)).mono ?_
    rintro e wv ⟨rfl, hb⟩
    have hbx0 := below_box hb
    have a0 : wv.cell? ⟨w.heap.size, 0, none⟩ = some (.int .i64 V0) := by simpa using newbox hbx0 0
    have a1 : wv.cell? ⟨w.heap.size, 1, none⟩ = some (.int .i64 G0) := by simpa using newbox hbx0 1
    have a2 : wv.cell? ⟨w.heap.size, 2, none⟩ = some (.slice A0 n0 c0) := by simpa using newbox hbx0 2
    have al : w.heap.size < wv.heap.size := by simpa using newbox_lt hbx0
    have l0 : wv.cell? ⟨w.heap.size + 1, 0, none⟩ = some (.int .i64 la1) := by simpa using newbox hb 0
    have l1 : wv.cell? ⟨w.heap.size + 1, 1, none⟩ = some (.int .i64 lb1) := by simpa using newbox hb 1
    have ll : w.heap.size + 1 < wv.heap.size := by simpa using newbox_lt hb
    have B := Lib.hid (below_box hbx0)
    have hs1 := Lib.hid (below_box hbx0).size
    have hz := Lib.hid ll
    clear hb hbx0
    go_wp2_with fail
    go_region_held3 (fun w' => w'.cell? ⟨w.heap.size, 0, none⟩ = some (.int .i64 V0) ∧ w'.cell? ⟨w.heap.size, 1, none⟩ = some (.int .i64 G0) ∧ w'.cell? ⟨w.heap.size, 2, none⟩ = some (.slice A0 n0 c0) ∧ w'.cell? ⟨w.heap.size + 1, 0, none⟩ = some (.int .i64 la1) ∧ w'.cell? ⟨w.heap.size + 1, 1, none⟩ = some (.int .i64 lb1)) (first | exact ⟨a0, a1, a2, l0, l1⟩)
      (first
        | (go_at_call 8; refine (toBoard_any _ _ _ _ _ _ _ (by exact (ha0.keep B.out).drew1) (by omega)).mono ?_; rintro e wv ⟨gs, rfl, owns, hb⟩; (try replace hb := below_undrew hb); replace a0 := cell_keep a0 al hb; replace a1 := cell_keep a1 al hb; replace a2 := cell_keep a2 al hb; replace al := lt_keep al hb; replace l0 := cell_keep l0 ll hb; replace l1 := cell_keep l1 ll hb; replace ll := lt_keep ll hb; (try replace Os := Lib.hid (Os.out.keep hb)); have hs2 := Lib.hid hb.size; replace B := Lib.hid (below_next B.out hb); have Os := Lib.hid owns; have SPs := Lib.hid owns.span; clear owns; clear hb)
        | (go_at_call 9; refine (toLeaper_any _ _ _).mono ?_; rintro e wv ⟨rfl, hb⟩; (try replace hb := below_undrew hb); replace a0 := cell_keep a0 al hb; replace a1 := cell_keep a1 al hb; replace a2 := cell_keep a2 al hb; replace al := lt_keep al hb; replace l0 := cell_keep l0 ll hb; replace l1 := cell_keep l1 ll hb; replace ll := lt_keep ll hb; (try replace Os := Lib.hid (Os.out.keep hb)); have hs3 := Lib.hid hb.size; replace B := Lib.hid (below_next B.out hb); clear hb)
        | (go_at_call 18; refine (spec_MostApart _ _ _ _ _ _ _ _ _ (by exact Os.out.rd)).mono ?_; rintro e wv ⟨rfl, hb⟩; (try replace hb := below_undrew hb); replace a0 := cell_keep a0 al hb; replace a1 := cell_keep a1 al hb; replace a2 := cell_keep a2 al hb; replace al := lt_keep al hb; replace l0 := cell_keep l0 ll hb; replace l1 := cell_keep l1 ll hb; replace ll := lt_keep ll hb; have hs4 := Lib.hid hb.size; replace B := Lib.hid (below_next B.out hb); clear hb))
    all_goals
      clear Os SPs
      go_wp2_with fail
      refine (toBoard_any _ _ _ _ _ _ _ (ha0.keep B.out) (by omega)).mono ?_
      rintro e wv ⟨gx, rfl, ownx, hb⟩
      replace a0 := cell_keep a0 al hb
      replace a1 := cell_keep a1 al hb
      replace a2 := cell_keep a2 al hb
      replace al := lt_keep al hb
      replace l0 := cell_keep l0 ll hb
      replace l1 := cell_keep l1 ll hb
      replace ll := lt_keep ll hb
      have hs5 := Lib.hid hb.size
      replace B := Lib.hid (below_next B.out hb)
      have Ox := Lib.hid ownx; have SPx := Lib.hid ownx.span; clear ownx; clear hb
      obtain ⟨wx, hwx⟩ : ∃ wx, wx = wv := ⟨_, rfl⟩
      subst hwx
      go_wp2_with fail
      have hb := Below.refl (wx.alloc (.cells #[.int .i64 V0, .int .i64 G0, .slice (some ⟨gx, 0, none⟩) n0 n0] 31)).heap.size (wx.alloc (.cells #[.int .i64 V0, .int .i64 G0, .slice (some ⟨gx, 0, none⟩) n0 n0] 31))
      have x0 : (wx.alloc (.cells #[.int .i64 V0, .int .i64 G0, .slice (some ⟨gx, 0, none⟩) n0 n0] 31)).cell? ⟨wx.heap.size, 0, none⟩ = some (.int .i64 V0) := by simp
      have x1 : (wx.alloc (.cells #[.int .i64 V0, .int .i64 G0, .slice (some ⟨gx, 0, none⟩) n0 n0] 31)).cell? ⟨wx.heap.size, 1, none⟩ = some (.int .i64 G0) := by simp
      have x2 : (wx.alloc (.cells #[.int .i64 V0, .int .i64 G0, .slice (some ⟨gx, 0, none⟩) n0 n0] 31)).cell? ⟨wx.heap.size, 2, none⟩ = some (.slice (some ⟨gx, 0, none⟩) n0 n0) := by simp
      have xl := newbox_lt hb
      have hzx := Lib.hid xl
      replace hb := below_box hb
      replace a0 := cell_keep a0 al hb
      replace a1 := cell_keep a1 al hb
      replace a2 := cell_keep a2 al hb
      replace al := lt_keep al hb
      replace l0 := cell_keep l0 ll hb
      replace l1 := cell_keep l1 ll hb
      replace ll := lt_keep ll hb
      replace Ox := Lib.hid (Ox.out.keep hb)
      have hs6 := Lib.hid hb.size
      replace B := Lib.hid (below_next B.out hb)
      clear hb
      have hx0 : gx < wx.heap.size := (SPx.out _ rfl).2
      generalize wx.alloc (.cells #[.int .i64 V0, .int .i64 G0, .slice (some ⟨gx, 0, none⟩) n0 n0] 31) = wv at *
      generalize hx : wx.heap.size = x at *
      go_wp2_with fail
      go_region_held3 (fun w' => w'.cell? ⟨w.heap.size, 0, none⟩ = some (.int .i64 V0) ∧ w'.cell? ⟨w.heap.size, 1, none⟩ = some (.int .i64 G0) ∧ w'.cell? ⟨w.heap.size, 2, none⟩ = some (.slice A0 n0 c0) ∧ w'.cell? ⟨w.heap.size + 1, 0, none⟩ = some (.int .i64 la1) ∧ w'.cell? ⟨w.heap.size + 1, 1, none⟩ = some (.int .i64 lb1) ∧ w'.cell? ⟨x, 0, none⟩ = some (.int .i64 V0) ∧ w'.cell? ⟨x, 1, none⟩ = some (.int .i64 G0) ∧ w'.cell? ⟨x, 2, none⟩ = some (.slice (some ⟨gx, 0, none⟩) n0 n0)) (first | exact ⟨a0, a1, a2, l0, l1, x0, x1, x2⟩)
        (first
          | (go_at_call 9; refine (toLeaper_any _ _ _).mono ?_; rintro e wv ⟨rfl, hb⟩; (try replace hb := below_undrew hb); replace a0 := cell_keep a0 al hb; replace a1 := cell_keep a1 al hb; replace a2 := cell_keep a2 al hb; replace al := lt_keep al hb; replace l0 := cell_keep l0 ll hb; replace l1 := cell_keep l1 ll hb; replace ll := lt_keep ll hb; replace x0 := cell_keep x0 xl hb; replace x1 := cell_keep x1 xl hb; replace x2 := cell_keep x2 xl hb; replace xl := lt_keep xl hb; replace Ox := Lib.hid (Ox.out.keep hb); have hs7 := Lib.hid hb.size; replace B := Lib.hid (below_next B.out hb); clear hb)
          | (go_at_call 19; refine (impl_MostApart _ _ _ _ _ _ _ _ _ (by exact Ox.out.rd)).mono ?_; rintro e wv ⟨rfl, hb⟩; (try replace hb := below_undrew hb); replace a0 := cell_keep a0 al hb; replace a1 := cell_keep a1 al hb; replace a2 := cell_keep a2 al hb; replace al := lt_keep al hb; replace l0 := cell_keep l0 ll hb; replace l1 := cell_keep l1 ll hb; replace ll := lt_keep ll hb; replace x0 := cell_keep x0 xl hb; replace x1 := cell_keep x1 xl hb; replace x2 := cell_keep x2 xl hb; replace xl := lt_keep xl hb; replace Ox := Lib.hid (Ox.out.keep hb); have hs8 := Lib.hid hb.size; replace B := Lib.hid (below_next B.out hb); clear hb))
      go_wp2_with fail
      go_region_held3 (fun w' => w'.cell? ⟨w.heap.size, 0, none⟩ = some (.int .i64 V0) ∧ w'.cell? ⟨w.heap.size, 1, none⟩ = some (.int .i64 G0) ∧ w'.cell? ⟨w.heap.size, 2, none⟩ = some (.slice A0 n0 c0) ∧ w'.cell? ⟨w.heap.size + 1, 0, none⟩ = some (.int .i64 la1) ∧ w'.cell? ⟨w.heap.size + 1, 1, none⟩ = some (.int .i64 lb1) ∧ w'.cell? ⟨x, 0, none⟩ = some (.int .i64 V0) ∧ w'.cell? ⟨x, 1, none⟩ = some (.int .i64 G0) ∧ w'.cell? ⟨x, 2, none⟩ = some (.slice (some ⟨gx, 0, none⟩) n0 n0)) (first | exact ⟨a0, a1, a2, l0, l1, x0, x1, x2⟩)
        (first
          | (go_at_call 8; refine (toBoard_any _ _ _ _ _ _ _ (by exact (ha0.keep B.out).drew1) (by omega)).mono ?_; rintro e wv ⟨gy, rfl, owny, hb⟩; (try replace hb := below_undrew hb); replace a0 := cell_keep a0 al hb; replace a1 := cell_keep a1 al hb; replace a2 := cell_keep a2 al hb; replace al := lt_keep al hb; replace l0 := cell_keep l0 ll hb; replace l1 := cell_keep l1 ll hb; replace ll := lt_keep ll hb; replace x0 := cell_keep x0 xl hb; replace x1 := cell_keep x1 xl hb; replace x2 := cell_keep x2 xl hb; replace xl := lt_keep xl hb; replace Ox := Lib.hid (Ox.out.keep hb); have hs9 := Lib.hid hb.size; replace B := Lib.hid (below_next B.out hb); have Oy := Lib.hid owny; have SPy := Lib.hid owny.span; clear owny; clear hb)
          | (go_at_call 12; refine (eqBoard_any _ _ _ _ _ _ _ _ _ _ _ Ox.out.rd Oy.out.rd).mono ?_; simp only [decide_true]; rintro e wv ⟨rfl, hb⟩; (try replace hb := below_undrew hb); replace a0 := cell_keep a0 al hb; replace a1 := cell_keep a1 al hb; replace a2 := cell_keep a2 al hb; replace al := lt_keep al hb; replace l0 := cell_keep l0 ll hb; replace l1 := cell_keep l1 ll hb; replace ll := lt_keep ll hb; replace x0 := cell_keep x0 xl hb; replace x1 := cell_keep x1 xl hb; replace x2 := cell_keep x2 xl hb; replace xl := lt_keep xl hb; replace Ox := Lib.hid (Ox.out.keep hb); have hs10 := Lib.hid hb.size; replace B := Lib.hid (below_next B.out hb); clear hb Oy SPy))
      go_wp2
      go_ret
      exact ⟨rfl, B.out⟩

end Go.Proofs.YtbpgkigoboobeaaGreat
