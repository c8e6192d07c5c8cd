/-
  Contracts: SidesOfParts, the program.
  The walk of the exact law on SidesOfParts: it answers true, and what was there stays.
-/
import Derived.Test.YtomfgjbicpeggaaGreatBunHSidesOfParts9
import Derived.Test.YtomfgjbicpeggaaGreatBunHSidesOfParts1
namespace Go.Proofs.YtomfgjbicpeggaaGreat
open Go.RowKit

theorem onB_nilT {W H : Int} {xs : List Int} {a b : Int} : onB W H xs a b [] = okTwo W H xs a b := by simp [onB]
theorem wpList_store9 {ops : Array Oper} {rest : List Oper} {o : Oper} {a : Act} {w0 : World} {Q : Exit → Act → World → Prop} (L : List Nat) (hL : L.length = 9) (hg : o.guard = none) (x y : Operand)
    (ho : o.op = .store 53 x y) (hd : o.dst = none) (hx : a.eval x = .pointer (some ⟨w0.heap.size, 0, none⟩)) (hy : a.eval y = .agg (words L).toArray)
    (E : TypeId) (old : Array Value) (hold : old.size = 9) (h : wpList Tryz.prog ops Q rest a (w0.alloc (.cells (words L).toArray E))) :
    wpList Tryz.prog ops Q (o :: rest) a (w0.alloc (.cells old E)) := by
  refine wpList_store_rowTo hg _ x y ho hd w0.heap.size (words L).toArray hx hy E old (show (w0.heap.push _)[w0.heap.size]? = _ by rw [Array.getElem?_push_size]) (by rw [info_painting]; simp [words, hL]) (by rw [hold]; simp [words, hL]) (all_oneCell_toArray (words_one _)) ?_
  rw [World.setRow_alloc_new]; exact h
theorem step_appT {ops : Array Oper} {o : Oper} {a : Act} {K : Act → World → Prop} {Q : Exit → Act → World → Prop} {E0 : Prop} {w : World} (gx : Nat) (hgx : gx = w.heap.size) (hgd : o.guard = none) (s x : Operand)
    (ho : o.op = .call { callee := .builtin .append, args := #[s, x], argTypes := #[28, 28] }) (lo top : Nat) (A : Option Addr) (n c : Nat) (ps : List (List Int)) (A3 : Option Addr) (n3 c3 : Nat) (p : List Int)
    (hs : a.eval s = .slice A n c) (hown : PartsAt w lo top A n c ps) (hp : OwnI 3 w lo A3 n3 c3 p) (hpn : ∀ y, A3 = some y → top ≤ y.block) (htop : top ≤ w.heap.size)
    (hx : a.eval x = .slice (some ⟨gx, 0, none⟩) 1 1) (hn : n ≤ 100000) (hlo : lo ≤ w.heap.size)
    (h : ∀ A' c' w', PartsAt w' lo w.heap.size A' (n + 1) c' (ps ++ [p]) → Below lo w w' → K (a.put o.dst (.slice A' (n + 1) c')) w') :
    if Region.wanted o (yielded ops a.tmps) = true then Oper.wp Tryz.prog o a (w.alloc (.cells #[.slice A3 n3 c3] 22)) K Q else E0 := by
  have hw : Region.wanted o (yielded ops a.tmps) = true := by simp [Region.wanted, hgd]
  rw [if_pos hw]
  have h2 := wpList_appT (ops := ops) (rest := []) (Q := fun e a w => match e with | .normal => K a w | .outgrown => False | e => Q e a w) gx hgx hgd s x ho lo top A n c ps A3 n3 c3 p hs hown hp hpn htop hx hn hlo (fun A' c' w' h1 h3 => h A' c' w' h1 h3)
  unfold wpList at h2
  rw [if_pos hw] at h2
  rcases h2 with h2 | ⟨_, _, _, h2⟩
  · have h3 : wpList Tryz.prog ops (fun e a w => match e with | .normal => K a w | .outgrown => False | e => Q e a w) [] = K := rfl
    rw [h3] at h2
    unfold Oper.wp at *
    generalize (execOp a.eval o).run Tryz.prog (w.alloc (.cells #[.slice A3 n3 c3] 22)) = r at *
    cases r with
    | ok m w' =>
      cases m <;> simp only [Oper.upon] at h2 ⊢ <;>
        first
          | exact h2
          | exact Calls.mono h2 (fun e w'' he => by cases e <;> first | exact he | exact (he.elim fun _ h => h.elim fun _ h => h.elim))
    | halt x w' => cases x <;> simp only [Oper.upon] at h2 ⊢ <;> first | exact h2 | exact (h2.elim fun _ h => h.elim fun _ h => h.elim)
  · exact h2.elim
theorem below_new2T {lo : Nat} {w : World} {o : Obj} (h : lo ≤ w.heap.size) : Below lo w (w.alloc o) := (Below.refl _ _).alloc h o
theorem selTo_rise (f : Nat → Bool) : ∀ k, (selTo f k).Pairwise (· < ·)
  | 0 => List.Pairwise.nil
  | k + 1 => by
    have ih := selTo_rise f k
    cases h : f k with
    | false => rw [selTo_no h]; exact ih
    | true =>
      rw [selTo_yes h, List.pairwise_append]
      refine ⟨ih, List.pairwise_singleton _ _, fun x hx y hy => ?_⟩
      obtain ⟨i, hi, _, rfl⟩ := selTo_mem.1 hx
      have : y = (k : Int) := by simpa using hy
      omega
theorem and_set {f : Int → Nat} {flat part : List Int} {c : Nat} (hsub : ∀ x ∈ part, x ∈ flat) (h0 : ∀ x ∈ flat, 0 ≤ x) :
    setBits ((flat.filter fun y => f y == c).map Int.toNat) &&& setBits (part.map Int.toNat) = setBits ((part.filter fun y => f y == c).map Int.toNat) := by
  apply Nat.eq_of_testBit_eq
  intro i
  rw [Nat.testBit_and, Bool.eq_iff_iff, Bool.and_eq_true, setBits_test i _ _ rfl, setBits_test i _ _ rfl, setBits_test i _ _ rfl]
  simp only [List.mem_map, List.mem_filter]
  constructor
  · rintro ⟨⟨x, ⟨hx, hf⟩, rfl⟩, y, hy, e⟩
    have h1 := h0 x hx
    have h2 := h0 y (hsub y hy)
    have : y = x := by omega
    subst this
    exact ⟨y, ⟨hy, hf⟩, rfl⟩
  · rintro ⟨x, ⟨hx, hf⟩, rfl⟩
    exact ⟨⟨x, ⟨hsub x hx, hf⟩, rfl⟩, x, hx, rfl⟩
theorem pop_cnt {f : Int → Nat} {part : List Int} {c : Nat} (hr : part.Pairwise (· < ·)) (h : ∀ x ∈ part, 0 ≤ x ∧ x < 64) : ((popN 64 (setBits ((part.filter fun y => f y == c).map Int.toNat)) : Nat) : Int) = cntT f part c := by
  have hn : ((part.filter fun y => f y == c).map Int.toNat).Nodup := by
    rw [List.Nodup, List.pairwise_map]
    refine (hr.filter _).imp_of_mem (fun ha hb hab => ?_)
    have h1 := h _ (List.mem_filter.1 ha).1
    have h2 := h _ (List.mem_filter.1 hb).1
    omega
  have hlt : ∀ c' ∈ (part.filter fun y => f y == c).map Int.toNat, c' < 64 := fun i hi => by
    obtain ⟨y, hy, rfl⟩ := List.mem_map.1 hi
    have := h y (List.mem_filter.1 hy).1; omega
  rw [(popN_set _ _ rfl hlt).2.2 hn, List.length_map]; rfl

set_option maxRecDepth 100000 in
set_option maxHeartbeats 4000000 in
theorem impl_SidesOfParts (W H : Int) (A : Option Addr) (n c : Nat) (xs : List Int) (a b : Int) (w : World) (ha : Rd w A n xs) :
    Calls Tryz.prog 8 #[brd W H A n c, lpr a b] w fun e w' => ∃ A' n' c', e = .returned (.tuple #[.slice A' n' c', .bool (okTwo W H xs a b)]) ∧ OwnSS w' w.heap.size w'.heap.size A' n' c' (sidesV W H xs a b) ∧ Below w.heap.size w w' := by
  by_cases ho : onB W H xs a b [] = true
  · have hok : okTwo W H xs a b = true := by rw [← onB_nilT, ho]
    have FO := on_facts hok
    obtain ⟨N, hN⟩ : ∃ N, N = (W * H).toNat := ⟨_, rfl⟩
    rw [← hN] at FO
    have HF := Lib.hid FO
    have HOK := Lib.hid hok
    have n64 := FO.n.2
    clear FO hN
    go_enter Tryz.func8, Tryz.ntmps8
    go_wp2_with fail
    refine (isLeaperOn_any _ _ _ _ _ _ _ _ _ _ _ [] _ ((ha.alloc _).alloc _) (Rd.nil _ _)).mono ?_
    rw [ho]
    rintro e wv ⟨rfl, hb⟩
    have hbx0 := below_box hb
    have a0 : wv.cell? ⟨w.heap.size, 0, none⟩ = some (.int .i64 W) := by simpa using newbox hbx0 0
    have a1 : wv.cell? ⟨w.heap.size, 1, none⟩ = some (.int .i64 H) := by simpa using newbox hbx0 1
    have a2 : wv.cell? ⟨w.heap.size, 2, none⟩ = some (.slice A n c) := by simpa using newbox hbx0 2
    have al : w.heap.size < wv.heap.size := by simpa using newbox_lt hbx0
    have l0 : wv.cell? ⟨w.heap.size + 1, 0, none⟩ = some (.int .i64 a) := by simpa using newbox hb 0
    have l1 : wv.cell? ⟨w.heap.size + 1, 1, none⟩ = some (.int .i64 b) := by simpa using newbox hb 1
    have ll : w.heap.size + 1 < wv.heap.size := by simpa using newbox_lt hb
    have B := Lib.hid (below_box hbx0)
    clear hb hbx0
    go_wp2_with fail
    refine (onwardOf_any W H A n c xs a b _ (ha.keep B.out) HF.out.g HF.out.l).mono ?_
    rintro e wx ⟨mb, rfl, hom, hb⟩
    have HOM := Lib.hid hom
    replace a0 := cell_keep a0 al hb; replace a1 := cell_keep a1 al hb; replace a2 := cell_keep a2 al hb; replace l0 := cell_keep l0 ll hb; replace l1 := cell_keep l1 ll hb; replace al := lt_keep al hb; replace ll := lt_keep ll hb; replace B := Lib.hid (below_next B.out hb)
    clear hb hom
    have hTC := twoColours_any W H A n c xs a b N _ mb _ (ha.keep B.out) HF.out HOM.out
    obtain ⟨P, hP⟩ : ∃ P, P = paintF (fTwo W H xs a b) (partsL W H xs a b).flatten := ⟨_, rfl⟩
    have hPl : P.length = 9 := by rw [hP]; exact paintF_len _ _
    rw [← hP] at hTC
    have HPP := Lib.hid hP
    clear hP
    go_wp2_with fail
    refine hTC.mono ?_
    rintro e wy ⟨rfl, hb⟩
    have hsy := hb.size
    replace HOM := Lib.hid (HOM.out.keep hb)
    replace a0 := cell_keep a0 al hb; replace a1 := cell_keep a1 al hb; replace a2 := cell_keep a2 al hb; replace al := lt_keep al hb; replace B := Lib.hid (below_next B.out hb)
    clear hb hTC
    obtain ⟨W6, hW6⟩ : ∃ W6, W6 = wy.alloc (.cells (words P).toArray 53) := ⟨_, rfl⟩
    have hb6 : Below wy.heap.size wy W6 := by rw [hW6]; exact below_new (Below.refl _ _) _
    have hp6 := World.alloc_heap_new wy (.cells (words P).toArray 53)
    rw [← hW6] at hp6
    obtain ⟨pg, hpg⟩ : ∃ pg, pg = wy.heap.size := ⟨_, rfl⟩
    have hs6 : W6.heap.size = pg + 1 := by rw [hW6, hpg]; simp
    replace HOM := Lib.hid (HOM.out.keep hb6)
    replace a0 := cell_keep a0 al hb6; replace a1 := cell_keep a1 al hb6; replace a2 := cell_keep a2 al hb6; replace al := lt_keep al hb6; replace B := Lib.hid (below_next B.out hb6)
    rw [← hpg] at hp6
    have hgp : w.heap.size + 1 < pg := by omega
    clear hb6
    go_wp2_with (refine wpList_store9 P hPl rfl _ _ rfl rfl rfl rfl _ _ rfl ?_; rw [← hW6, ← hpg]; clear hW6 hpg)
    refine (partsOf_any W H A n c xs a b N _ mb _ (ha.keep B.out) HF.out HOM.out).mono ?_
    rintro e ws ⟨A', n', c', top, rfl, pa, hb⟩
    have hps := (hb.block pg (by omega)).trans hp6
    replace B := Lib.hid (below_next B.out hb)
    have PA := Lib.hid pa
    obtain ⟨hTL, hTP⟩ := two_parts HF.out
    have HTP := Lib.hid hTP
    have hpl := pa.len
    have hpn : n' ≤ 64 := by
      have h1 := partsTo_len W H xs a b (cellsL W H xs).length
      rw [partsTo, List.take_length] at h1
      have h2 := cellsTo_len (W := W) (H := H) (hs := xs) (W * H).toNat
      have h3 := HF.out.wh
      have h4 : (cellsL W H xs).length ≤ (W * H).toNat := h2
      have h5 : (partsL W H xs a b).length ≤ (cellsL W H xs).length := h1
      omega
    have ANS := Lib.hid (show sidesV W H xs a b = (partsL W H xs a b).map (rowT (fTwo W H xs a b)) by rw [sidesV, if_pos HOK.out])
    obtain ⟨f, hf⟩ : ∃ f, f = fTwo W H xs a b := ⟨_, rfl⟩
    obtain ⟨ps, hpse⟩ : ∃ ps, ps = partsL W H xs a b := ⟨_, rfl⟩
    rw [← hf] at ANS HPP
    rw [← hpse] at ANS PA HTP hpl HPP
    have hflat := Lib.hid (show ∀ y ∈ ps.flatten, 0 ≤ y ∧ y < 64 from fun y hy => by
      obtain ⟨q, hq, hyq⟩ := List.mem_flatten.1 hy
      obtain ⟨_, _, _, _, h9⟩ := HTP.out q hq
      have := (h9 y hyq).1; omega)
    have hBs := B.out.size
    have hpgs := (Array.getElem?_eq_some_iff.1 hps).1
    have HPG := Lib.hid hps
    clear pa hb hTL hTP hf hpse a0 a1 a2 al hps hp6 HOM
    go_wp2
    go_loopw [8, 26] (fun v i wr => ∃ (k n2 c2 top2 : Nat) (A2 : Option Addr), k ≤ n' ∧ i = .int .i64 k ∧ v = .slice A2 n2 c2 ∧ PartsAt wr ws.heap.size top2 A2 n2 c2 ((ps.take k).map (rowT f)) ∧ top2 ≤ wr.heap.size ∧ Below ws.heap.size ws wr) (fun _ i _ => n' - (intOf i).toNat)
    case atStart => exact ⟨0, 0, 0, 0, none, by omega, rfl, rfl, PartsAt.none_ _ _ _, by omega, Below.refl _ _⟩
    case round =>
      obtain ⟨k, n2, c2, top2, A2, hk, rfl, rfl, hpo, htop, hbw⟩ := hrel
      have hsw := hbw.size
      obtain rfl : k = n2 := by have := hpo.len; rw [List.length_map, List.length_take] at this; omega
      have PO := Lib.hid hpo; have HBW := Lib.hid hbw
      clear hpo
      by_cases hlt : k < n'
      · obtain ⟨g, A9, n9, c9, p, rfl, hg1, hg2, hp, hpc, hown⟩ := PA.out.at_ hlt
        obtain ⟨c0, hc0, hpe, hhd, hcol⟩ := HTP.out p (List.mem_of_getElem? hp)
        have x0 := cell_keep hpc hg2 hbw
        have hpx : ∀ x ∈ p, 0 ≤ x ∧ x < 64 := fun x hx => by have := (hcol x hx).1; omega
        have hrise : p.Pairwise (· < ·) := by rw [hpe]; exact selTo_rise _ _
        have hS := setOf_any A9 n9 c9 p wr (hown.keep hbw).rd hpx
        have hsub : ∀ x ∈ p, x ∈ ps.flatten := fun x hx => List.mem_flatten.2 ⟨p, List.mem_of_getElem? hp, hx⟩
        obtain ⟨m, hm⟩ : ∃ m, m = setBits (p.map Int.toNat) := ⟨_, rfl⟩
        have hm64 : m < 18446744073709551616 := by rw [hm]; exact setBits_lt _ (fun i hi => by obtain ⟨y, hy, rfl⟩ := List.mem_map.1 hi; have := hpx y hy; omega)
        rw [← hm] at hS
        have hP0 : P[0]? = some (setBits ((ps.flatten.filter fun y => f y == 0).map Int.toNat)) := by rw [HPP.out]; exact paintF_at (by decide)
        have hP1 : P[1]? = some (setBits ((ps.flatten.filter fun y => f y == 1).map Int.toNat)) := by rw [HPP.out]; exact paintF_at (by decide)
        have hlt64 : ∀ c : Nat, setBits ((ps.flatten.filter fun y => f y == c).map Int.toNat) < 18446744073709551616 := fun c => setBits_lt _ (fun i hi => by obtain ⟨y, hy, rfl⟩ := List.mem_map.1 hi; have := hflat.out y (List.mem_filter.1 hy).1; omega)
        have hq0 := and_set (c := 0) (f := f) hsub (fun x hx => (hflat.out x hx).1)
        have hq1 := and_set (c := 1) (f := f) hsub (fun x hx => (hflat.out x hx).1)
        have hc0' := pop_cnt (c := 0) (f := f) hrise hpx
        have hc1' := pop_cnt (c := 1) (f := f) hrise hpx
        have hl0 := hlt64 0; have hl1 := hlt64 1
        rw [← hq0] at hc0'; rw [← hq1] at hc1'
        rw [← hm] at hc0' hc1'
        generalize setBits ((ps.flatten.filter fun y => f y == 0).map Int.toNat) = s0 at *
        generalize setBits ((ps.flatten.filter fun y => f y == 1).map Int.toNat) = s1 at *
        have hrow : rowT f p = [((popN 64 (s0 &&& m) : Nat) : Int), ((popN 64 (s1 &&& m) : Nat) : Int)] := by rw [rowT, hc0', hc1']
        have hpg := (hbw.block pg hpgs).trans HPG.out
        have v0 : wr.cell? ⟨pg, 0, none⟩ = some (.int .u64 (s0 : Int)) := by
          rw [cell_of_row _ _ _ _ _ _ hpg, List.getElem?_toArray, words, List.getElem?_map, hP0]; rfl
        have v1 : wr.cell? ⟨pg, 1, none⟩ = some (.int .u64 (s1 : Int)) := by
          rw [cell_of_row _ _ _ _ _ _ hpg, List.getElem?_toArray, words, List.getElem?_map, hP1]; rfl
        have hpgw := lt_keep hpgs hbw
        have e0 := and_nat s0 m _ hl0 hm64 rfl
        have e1 := and_nat s1 m _ hl1 hm64 rfl
        have z0 : s0 &&& m < 18446744073709551616 := Nat.lt_of_le_of_lt Nat.and_le_left hl0
        have z1 : s1 &&& m < 18446744073709551616 := Nat.lt_of_le_of_lt Nat.and_le_left hl1
        have HS := Lib.hid hS; have HROW := Lib.hid hrow; have HP := Lib.hid hp
        clear hpc hown hcol hbw hpe hhd hc0 hS hrow hp hq0 hq1 hc0' hc1' hm hpx hrise hsub hlt64 hP0 hP1 hpg
        go_wp2_with fail
        refine HS.out.mono ?_
        rintro e wu ⟨rfl, hbu⟩
        replace v0 := cell_keep v0 hpgw hbu; replace v1 := cell_keep v1 hpgw hbu
        replace hpgw := lt_keep hpgw hbu
        have PO2 := Lib.hid (PO.out.keep hbu)
        have hsu := hbu.size
        have HBU := Lib.hid (HBW.out.trans (hbu.mono HBW.out.size))
        clear hbu x0
        go_wp2_with fail
        have hZ0 := Lib.hid (fun V => size_any (s0 &&& m) z0 V)
        have hZ1 := Lib.hid (fun V => size_any (s1 &&& m) z1 V)
        obtain ⟨u0, hu0⟩ : ∃ u0 : Int, u0 = ((popN 64 (s0 &&& m) : Nat) : Int) := ⟨_, rfl⟩
        obtain ⟨u1, hu1⟩ : ∃ u1 : Int, u1 = ((popN 64 (s1 &&& m) : Nat) : Int) := ⟨_, rfl⟩
        rw [← hu0] at hZ0 HROW
        rw [← hu1] at hZ1 HROW
        obtain ⟨t0, ht0⟩ : ∃ t0 : Int, t0 = ((s0 &&& m : Nat) : Int) := ⟨_, rfl⟩
        obtain ⟨t1, ht1⟩ : ∃ t1 : Int, t1 = ((s1 &&& m : Nat) : Int) := ⟨_, rfl⟩
        rw [← ht0] at e0 hZ0
        rw [← ht1] at e1 hZ1
        clear hu0 hu1 ht0 ht1 z0 z1 hl0 hl1 hm64
        have htw : top2 ≤ wu.heap.size := by omega
        have hlw : ws.heap.size ≤ wu.heap.size := by omega
        have hpk : Hid ((ps.take (k + 1)).map (rowT f) = (ps.take k).map (rowT f) ++ [[u0, u1]]) := Lib.hid (by rw [List.take_add_one, HP.out]; simp [HROW.out])
        refine wp_region_held_drew (S := fun w' => w'.cell? ⟨pg, 0, none⟩ = some (.int .u64 (s0 : Int)) ∧ w'.cell? ⟨pg, 1, none⟩ = some (.int .u64 (s1 : Int))) (by kernel_rfl) ?_ (fun hHeld => ?_)
        · (try dsimp only)
          exact ⟨(by first | exact v0 | go_simp), (by first | exact v1 | go_simp)⟩
        refine wpAnyH_take (i := 0) (oi := ⟨_, _, _, _, _, _⟩) (v := ?_) rfl (by kernel_rfl) (by kernel_rfl) (by kernel_rfl) (fun _ _ _ h => h) (Or.inl ⟨by rfl, ?_⟩) (by assumption) ?_
        rotate_left
        · intro w hSw
          (try dsimp only at hSw)
          go_simp
          (try with_reducible rfl)
        (try simp only [Act.put, List.setIfInBounds_toArray, List.set_cons_zero, List.set_cons_succ])
        refine wpAnyH_take (i := 1) (oi := ⟨_, _, _, _, _, _⟩) (v := ?_) rfl (by kernel_rfl) (by kernel_rfl) (by kernel_rfl) (fun _ _ _ h => h) (Or.inl ⟨by rfl, ?_⟩) (by assumption) ?_
        rotate_left
        · intro w hSw
          (try dsimp only at hSw)
          go_simp
          (try with_reducible rfl)
        (try simp only [Act.put, List.setIfInBounds_toArray, List.set_cons_zero, List.set_cons_succ])
        refine wpAnyH_take (i := 2) (oi := ⟨_, _, _, _, _, _⟩) (v := ?_) rfl (by kernel_rfl) (by kernel_rfl) (by kernel_rfl) (fun _ _ _ h => h) (Or.inl ⟨by rfl, ?_⟩) (by assumption) ?_
        rotate_left
        · intro w hSw
          (try dsimp only at hSw)
          go_simp
          (try with_reducible rfl)
        (try simp only [Act.put, List.setIfInBounds_toArray, List.set_cons_zero, List.set_cons_succ])
        refine wpAnyH_take (i := 3) (oi := ⟨_, _, _, _, _, _⟩) (v := ?_) rfl (by kernel_rfl) (by kernel_rfl) (by kernel_rfl) (fun _ _ _ h => h) (Or.inl ⟨by rfl, ?_⟩) (by assumption) ?_
        rotate_left
        · intro w hSw
          (try dsimp only at hSw)
          go_simp
          (try with_reducible rfl)
        (try simp only [Act.put, List.setIfInBounds_toArray, List.set_cons_zero, List.set_cons_succ])
        refine wpAnyH_take (i := 4) (oi := ⟨_, _, _, _, _, _⟩) (v := ?_) rfl (by kernel_rfl) (by kernel_rfl) (by kernel_rfl) (fun _ _ _ h => h) (Or.inl ⟨by rfl, ?_⟩) (by assumption) ?_
        rotate_left
        · intro w hSw
          (try dsimp only at hSw)
          go_simp
          (try with_reducible rfl)
        (try simp only [Act.put, List.setIfInBounds_toArray, List.set_cons_zero, List.set_cons_succ])
        refine wpAnyH_take (i := 6) (oi := ⟨_, _, _, _, _, _⟩) (v := ?_) rfl (by kernel_rfl) (by kernel_rfl) (by kernel_rfl) (fun _ _ _ h => h) (Or.inl ⟨by rfl, ?_⟩) (by assumption) ?_
        rotate_left
        · intro w hSw
          (try dsimp only at hSw)
          go_simp
          (try with_reducible rfl)
        (try simp only [Act.put, List.setIfInBounds_toArray, List.set_cons_zero, List.set_cons_succ])
        refine wpAnyH_take (i := 7) (oi := ⟨_, _, _, _, _, _⟩) (v := ?_) rfl (by kernel_rfl) (by kernel_rfl) (by kernel_rfl) (fun _ _ _ h => h) (Or.inl ⟨by rfl, ?_⟩) (by assumption) ?_
        rotate_left
        · intro w hSw
          (try dsimp only at hSw)
          go_simp
          (try with_reducible rfl)
        (try simp only [Act.put, List.setIfInBounds_toArray, List.set_cons_zero, List.set_cons_succ])
        refine wpAnyH_take (i := 8) (oi := ⟨_, _, _, _, _, _⟩) (v := ?_) rfl (by kernel_rfl) (by kernel_rfl) (by kernel_rfl) (fun _ _ _ h => h) (Or.inl ⟨by rfl, ?_⟩) (by assumption) ?_
        rotate_left
        · intro w hSw
          (try dsimp only at hSw)
          go_simp
          (try with_reducible rfl)
        (try simp only [Act.put, List.setIfInBounds_toArray, List.set_cons_zero, List.set_cons_succ])
        refine wpAnyH_take (i := 9) (oi := ⟨_, _, _, _, _, _⟩) (v := ?_) rfl (by kernel_rfl) (by kernel_rfl) (by kernel_rfl) (fun _ _ _ h => h) (Or.inl ⟨by rfl, ?_⟩) (by assumption) ?_
        rotate_left
        · intro w hSw
          (try dsimp only at hSw)
          go_simp
          (try with_reducible rfl)
        (try simp only [Act.put, List.setIfInBounds_toArray, List.set_cons_zero, List.set_cons_succ])
        refine wpAnyH_ready (rs := [5]) (by kernel_rfl) (by simp) ?_
        refine AllReadyH.cons (o := ⟨_, _, _, _, _, _⟩) rfl (fun K hK => ?_) AllReadyH.nil
        go_simp
        (go_at_call 24; refine (hZ0.out _).mono ?_; rintro e wv ⟨rfl, hb⟩; (repeat (first | replace hb := below_undrew hb | replace hb := below_undrewN hb)); replace v0 := cell_keep v0 hpgw hb; replace v1 := cell_keep v1 hpgw hb; replace hpgw := lt_keep hpgw hb; replace PO2 := Lib.hid (PO2.out.keep hb); replace HBU := Lib.hid (HBU.out.trans (hb.mono HBU.out.size)); replace htw := Nat.le_trans htw hb.size; replace hlw := Nat.le_trans hlw hb.size; clear hb)
        (try go_wp2_with fail)
        refine hK.out _ _ ?_ (fun hHeld => ?_)
        · (try dsimp only)
          exact ⟨(by first | exact v0 | go_simp), (by first | exact v1 | go_simp)⟩
        clear hK K
        (try simp only [Act.put, List.setIfInBounds_toArray, List.set_cons_zero, List.set_cons_succ])
        refine wpAnyH_ready (rs := [10]) (by kernel_rfl) (by simp) ?_
        refine AllReadyH.cons (o := ⟨_, _, _, _, _, _⟩) rfl (fun K hK => ?_) AllReadyH.nil
        go_simp
        (go_at_call 24; refine (hZ1.out _).mono ?_; rintro e wv ⟨rfl, hb⟩; (repeat (first | replace hb := below_undrew hb | replace hb := below_undrewN hb)); replace v0 := cell_keep v0 hpgw hb; replace v1 := cell_keep v1 hpgw hb; replace hpgw := lt_keep hpgw hb; replace PO2 := Lib.hid (PO2.out.keep hb); replace HBU := Lib.hid (HBU.out.trans (hb.mono HBU.out.size)); replace htw := Nat.le_trans htw hb.size; replace hlw := Nat.le_trans hlw hb.size; clear hb)
        (try go_wp2_with fail)
        refine hK.out _ _ ?_ (fun hHeld => ?_)
        · (try dsimp only)
          exact ⟨(by first | exact v0 | go_simp), (by first | exact v1 | go_simp)⟩
        clear hK K
        (try simp only [Act.put, List.setIfInBounds_toArray, List.set_cons_zero, List.set_cons_succ])
        refine wpAnyH_ready (rs := [11]) (by kernel_rfl) (by simp) ?_
        refine AllReadyH.cons (o := ⟨_, _, _, _, _, _⟩) rfl (fun K hK => ?_) AllReadyH.nil
        go_simp
        skip
        (try go_wp2_with fail)
        refine hK.out _ _ ?_ (fun hHeld => ?_)
        · (try dsimp only)
          exact ⟨(by first | exact v0 | go_simp), (by first | exact v1 | go_simp)⟩
        clear hK K
        (try simp only [Act.put, List.setIfInBounds_toArray, List.set_cons_zero, List.set_cons_succ])
        refine wpAnyH_ready (rs := [12]) (by kernel_rfl) (by simp) ?_
        refine AllReadyH.cons (o := ⟨_, _, _, _, _, _⟩) rfl (fun K hK => ?_) AllReadyH.nil
        go_simp
        skip
        (try go_wp2_with fail)
        refine hK.out _ _ ?_ (fun hHeld => ?_)
        · (try dsimp only)
          exact ⟨(by first | exact v0 | go_simp), (by first | exact v1 | go_simp)⟩
        clear hK K
        (try simp only [Act.put, List.setIfInBounds_toArray, List.set_cons_zero, List.set_cons_succ])
        refine wpAnyH_ready (rs := [13]) (by kernel_rfl) (by simp) ?_
        refine AllReadyH.cons (o := ⟨_, _, _, _, _, _⟩) rfl (fun K hK => ?_) AllReadyH.nil
        (refine step_appT _ (by simp) rfl (.tmp 32) (.tmp 44) rfl ws.heap.size top2 A2 k c2 _ (some ⟨_, 0, none⟩) 2 2 [u0, u1] rfl (PO2.out.keep (below_new (Below.refl _ _) _)) (own_twoT _ u0 u1 ws.heap.size hlw) (fun y hy => by injection hy with hy; rw [← hy]; exact htw) (by simp; omega) rfl (by omega) (by simp; omega) ?_; intro A7 c7 w7 hpa7 hb7; have PA7 := Lib.hid hpa7; have HB7 := Lib.hid (HBU.out.trans ((below_new2T hlw).trans hb7)); have hs7 := hb7.size; replace v0 : w7.cell? ⟨pg, 0, none⟩ = some (.int .u64 (s0 : Int)) := (hb7.cell (p := ⟨pg, 0, none⟩) hpgs).trans (by go_simp); replace v1 : w7.cell? ⟨pg, 1, none⟩ = some (.int .u64 (s1 : Int)) := (hb7.cell (p := ⟨pg, 1, none⟩) hpgs).trans (by go_simp); clear hpa7 hb7)
        refine hK.out _ _ ?_ (fun hHeld => ?_)
        · (try dsimp only)
          exact ⟨(by first | exact v0 | go_simp), (by first | exact v1 | go_simp)⟩
        clear hK K
        (try simp only [Act.put, List.setIfInBounds_toArray, List.set_cons_zero, List.set_cons_succ])
        refine wpAnyH_take (i := 14) (oi := ⟨_, _, _, _, _, _⟩) (v := ?_) rfl (by kernel_rfl) (by kernel_rfl) (by kernel_rfl) (fun _ _ _ h => h) (Or.inl ⟨by rfl, ?_⟩) (by assumption) ?_
        rotate_left
        · intro w hSw
          (try dsimp only at hSw)
          go_simp
          (try with_reducible rfl)
        (try simp only [Act.put, List.setIfInBounds_toArray, List.set_cons_zero, List.set_cons_succ])
        refine wpAnyH_done (by kernel_rfl) ?_ _
        all_goals go_wp2
        all_goals go_roundw
        all_goals (first | exact ⟨k + 1, k + 1, c7, _, A7, by omega, by go_num, rfl, by rw [hpk.out]; exact PA7.out, hs7, HB7.out⟩ | (simp [intOf]; omega))
      · obtain rfl : k = n' := by omega
        have eT : (ps.take k).map (rowT f) = sidesV W H xs a b := by rw [ANS.out, List.take_of_length_le (by omega)]
        have PO2 := Lib.hid (show PartsAt wr ws.heap.size top2 A2 k c2 (sidesV W H xs a b) by rw [← eT]; exact PO.out)
        clear hbw
        go_wp2
        go_ret2
        exact ⟨_, _, _, by rw [HOK.out]; rfl, OwnSS.of (PO2.out.lower hBs), B.out.trans (HBW.out.mono hBs)⟩
  · have ho' : onB W H xs a b [] = false := by simpa using ho
    go_enter Tryz.func8, Tryz.ntmps8
    go_wp2_with fail
    refine (isLeaperOn_any _ _ _ _ _ _ _ _ _ _ _ [] _ ((ha.alloc _).alloc _) (Rd.nil _ _)).mono ?_
    rw [ho']
    rintro e wv ⟨rfl, hb⟩
    have hbx0 := below_box hb
    have a0 : wv.cell? ⟨w.heap.size, 0, none⟩ = some (.int .i64 W) := by simpa using newbox hbx0 0
    have a1 : wv.cell? ⟨w.heap.size, 1, none⟩ = some (.int .i64 H) := by simpa using newbox hbx0 1
    have a2 : wv.cell? ⟨w.heap.size, 2, none⟩ = some (.slice A n c) := by simpa using newbox hbx0 2
    have al : w.heap.size < wv.heap.size := by simpa using newbox_lt hbx0
    have l0 : wv.cell? ⟨w.heap.size + 1, 0, none⟩ = some (.int .i64 a) := by simpa using newbox hb 0
    have l1 : wv.cell? ⟨w.heap.size + 1, 1, none⟩ = some (.int .i64 b) := by simpa using newbox hb 1
    have ll : w.heap.size + 1 < wv.heap.size := by simpa using newbox_lt hb
    have B := Lib.hid (below_box hbx0)
    clear hb hbx0
    go_wp2
    go_ret2
    exact ⟨none, 0, 0, by rw [show okTwo W H xs a b = false by (rw [← onB_nilT, ho'])]; rfl, by rw [sidesV, if_neg (by rw [show okTwo W H xs a b = false by (rw [← onB_nilT, ho'])]; simp)]; exact OwnSS.of (PartsAt.none_ _ _ 0), B.out⟩

theorem sidesV_small (W H : Int) (xs : List Int) (a b : Int) : (sidesV W H xs a b).length ≤ 64 ∧ ∀ p ∈ sidesV W H xs a b, p.length ≤ 64 := by
  unfold sidesV
  split
  · rename_i h
    have hF := on_facts h
    have h1 := partsTo_len W H xs a b (cellsL W H xs).length
    have h2 := cellsTo_len (W := W) (H := H) (hs := xs) (W * H).toNat
    have h3 := hF.n
    have h4 := hF.wh
    have eP : partsTo W H xs a b (cellsL W H xs).length = partsL W H xs a b := by rw [partsTo, List.take_length]; rfl
    rw [eP] at h1
    refine ⟨by rw [List.length_map]; unfold cellsL at h1; omega, fun p hp => ?_⟩
    obtain ⟨q, _, rfl⟩ := List.mem_map.1 hp
    simp [rowT]
  · exact ⟨by simp, fun p hp => by simp at hp⟩

end Go.Proofs.YtomfgjbicpeggaaGreat

namespace Go.Proofs.YtomfgjbicpeggaaGreat
open Go.RowKit

set_option maxHeartbeats 4000000 in
set_option maxRecDepth 100000 in
theorem law_SidesOfParts (w : World) (V0 G0 : Int) (A0 : Option Addr) (n0 c0 : Nat) (xs0 : List Int) (ha0 : Rd w A0 n0 xs0) (la1 lb1 : Int) :
    Calls Tryz.prog 3 #[brd V0 G0 A0 n0 c0, lpr la1 lb1] w fun e w' => e = .returned (.bool true) ∧ Below w.heap.size w w' := by
  have hn9 := ha0.2.1
  by_cases hnB : (n0 : Int) ≤ 1048576
  rotate_left
  · go_enter Tryz.func3, Tryz.ntmps3
    go_wp2_with fail
    refine (szBoard_any _ _ _ _ _ _ _ hn9 (by omega) (by omega)).mono ?_
    rintro e wv ⟨rfl, hb⟩
    have B := Lib.hid (below_box (below_box hb))
    clear hb
    go_wp2
    go_ret
    exact ⟨rfl, B.out⟩
  · go_enter Tryz.func3, Tryz.ntmps3
    go_wp2_with fail
    refine (szBoard_any _ _ _ _ _ _ _ hn9 (by omega) (by omega)).mono ?_
    rintro e wv ⟨rfl, hb⟩
    have hbx0 := below_box hb
    have a0 : wv.cell? ⟨w.heap.size, 0, none⟩ = some (.int .i64 V0) := by simpa using newbox hbx0 0
    have a1 : wv.cell? ⟨w.heap.size, 1, none⟩ = some (.int .i64 G0) := by simpa using newbox hbx0 1
    have a2 : wv.cell? ⟨w.heap.size, 2, none⟩ = some (.slice A0 n0 c0) := by simpa using newbox hbx0 2
    have al : w.heap.size < wv.heap.size := by simpa using newbox_lt hbx0
    have l0 : wv.cell? ⟨w.heap.size + 1, 0, none⟩ = some (.int .i64 la1) := by simpa using newbox hb 0
    have l1 : wv.cell? ⟨w.heap.size + 1, 1, none⟩ = some (.int .i64 lb1) := by simpa using newbox hb 1
    have ll : w.heap.size + 1 < wv.heap.size := by simpa using newbox_lt hb
    have B := Lib.hid (below_box hbx0)
    have hs1 := Lib.hid (below_box hbx0).size
    have hz := Lib.hid ll
    clear hb hbx0
    go_wp2_with fail
    go_region_held3 (fun w' => w'.cell? ⟨w.heap.size, 0, none⟩ = some (.int .i64 V0) ∧ w'.cell? ⟨w.heap.size, 1, none⟩ = some (.int .i64 G0) ∧ w'.cell? ⟨w.heap.size, 2, none⟩ = some (.slice A0 n0 c0) ∧ w'.cell? ⟨w.heap.size + 1, 0, none⟩ = some (.int .i64 la1) ∧ w'.cell? ⟨w.heap.size + 1, 1, none⟩ = some (.int .i64 lb1)) (first | exact ⟨a0, a1, a2, l0, l1⟩)
      (first
        | (go_at_call 6; refine (toBoard_any _ _ _ _ _ _ _ (by exact (ha0.keep B.out).drew1) (by omega)).mono ?_; rintro e wv ⟨gs, rfl, owns, hb⟩; (try replace hb := below_undrew hb); replace a0 := cell_keep a0 al hb; replace a1 := cell_keep a1 al hb; replace a2 := cell_keep a2 al hb; replace al := lt_keep al hb; replace l0 := cell_keep l0 ll hb; replace l1 := cell_keep l1 ll hb; replace ll := lt_keep ll hb; (try replace Os := Lib.hid (Os.out.keep hb)); have hs2 := Lib.hid hb.size; replace B := Lib.hid (below_next B.out hb); have Os := Lib.hid owns; have SPs := Lib.hid owns.span; clear owns; clear hb)
        | (go_at_call 7; refine (toLeaper_any _ _ _).mono ?_; rintro e wv ⟨rfl, hb⟩; (try replace hb := below_undrew hb); replace a0 := cell_keep a0 al hb; replace a1 := cell_keep a1 al hb; replace a2 := cell_keep a2 al hb; replace al := lt_keep al hb; replace l0 := cell_keep l0 ll hb; replace l1 := cell_keep l1 ll hb; replace ll := lt_keep ll hb; (try replace Os := Lib.hid (Os.out.keep hb)); have hs3 := Lib.hid hb.size; replace B := Lib.hid (below_next B.out hb); clear hb)
        | (go_at_call 5; refine (spec_SidesOfParts _ _ _ _ _ _ _ _ _ (by exact Os.out.rd)).mono ?_; rintro e wv ⟨AW, nW, cW, rfl, ownW, hb⟩; (try replace hb := below_undrew hb); replace a0 := cell_keep a0 al hb; replace a1 := cell_keep a1 al hb; replace a2 := cell_keep a2 al hb; replace al := lt_keep al hb; replace l0 := cell_keep l0 ll hb; replace l1 := cell_keep l1 ll hb; replace ll := lt_keep ll hb; have hs4 := Lib.hid hb.size; replace B := Lib.hid (below_next B.out hb); have OW := Lib.hid ownW; clear ownW; clear hb))
    all_goals
      clear Os SPs
      go_wp2_with fail
      refine (toBoard_any _ _ _ _ _ _ _ (ha0.keep B.out) (by omega)).mono ?_
      rintro e wv ⟨gx, rfl, ownx, hb⟩
      replace a0 := cell_keep a0 al hb
      replace a1 := cell_keep a1 al hb
      replace a2 := cell_keep a2 al hb
      replace al := lt_keep al hb
      replace l0 := cell_keep l0 ll hb
      replace l1 := cell_keep l1 ll hb
      replace ll := lt_keep ll hb
      replace OW := Lib.hid (OW.out.keep hb)
      have hs5 := Lib.hid hb.size
      replace B := Lib.hid (below_next B.out hb)
      have Ox := Lib.hid ownx; have SPx := Lib.hid ownx.span; clear ownx; clear hb
      obtain ⟨wx, hwx⟩ : ∃ wx, wx = wv := ⟨_, rfl⟩
      subst hwx
      go_wp2_with fail
      have hb := Below.refl (wx.alloc (.cells #[.int .i64 V0, .int .i64 G0, .slice (some ⟨gx, 0, none⟩) n0 n0] 31)).heap.size (wx.alloc (.cells #[.int .i64 V0, .int .i64 G0, .slice (some ⟨gx, 0, none⟩) n0 n0] 31))
      have x0 : (wx.alloc (.cells #[.int .i64 V0, .int .i64 G0, .slice (some ⟨gx, 0, none⟩) n0 n0] 31)).cell? ⟨wx.heap.size, 0, none⟩ = some (.int .i64 V0) := by simp
      have x1 : (wx.alloc (.cells #[.int .i64 V0, .int .i64 G0, .slice (some ⟨gx, 0, none⟩) n0 n0] 31)).cell? ⟨wx.heap.size, 1, none⟩ = some (.int .i64 G0) := by simp
      have x2 : (wx.alloc (.cells #[.int .i64 V0, .int .i64 G0, .slice (some ⟨gx, 0, none⟩) n0 n0] 31)).cell? ⟨wx.heap.size, 2, none⟩ = some (.slice (some ⟨gx, 0, none⟩) n0 n0) := by simp
      have xl := newbox_lt hb
      have hzx := Lib.hid xl
      replace hb := below_box hb
      replace a0 := cell_keep a0 al hb
      replace a1 := cell_keep a1 al hb
      replace a2 := cell_keep a2 al hb
      replace al := lt_keep al hb
      replace l0 := cell_keep l0 ll hb
      replace l1 := cell_keep l1 ll hb
      replace ll := lt_keep ll hb
      replace OW := Lib.hid (OW.out.keep hb)
      replace Ox := Lib.hid (Ox.out.keep hb)
      have hs6 := Lib.hid hb.size
      replace B := Lib.hid (below_next B.out hb)
      clear hb
      have hx0 : gx < wx.heap.size := (SPx.out _ rfl).2
      generalize wx.alloc (.cells #[.int .i64 V0, .int .i64 G0, .slice (some ⟨gx, 0, none⟩) n0 n0] 31) = wv at *
      generalize hx : wx.heap.size = x at *
      go_wp2_with fail
      go_region_held3 (fun w' => w'.cell? ⟨w.heap.size, 0, none⟩ = some (.int .i64 V0) ∧ w'.cell? ⟨w.heap.size, 1, none⟩ = some (.int .i64 G0) ∧ w'.cell? ⟨w.heap.size, 2, none⟩ = some (.slice A0 n0 c0) ∧ w'.cell? ⟨w.heap.size + 1, 0, none⟩ = some (.int .i64 la1) ∧ w'.cell? ⟨w.heap.size + 1, 1, none⟩ = some (.int .i64 lb1) ∧ w'.cell? ⟨x, 0, none⟩ = some (.int .i64 V0) ∧ w'.cell? ⟨x, 1, none⟩ = some (.int .i64 G0) ∧ w'.cell? ⟨x, 2, none⟩ = some (.slice (some ⟨gx, 0, none⟩) n0 n0)) (first | exact ⟨a0, a1, a2, l0, l1, x0, x1, x2⟩)
        (first
          | (go_at_call 7; refine (toLeaper_any _ _ _).mono ?_; rintro e wv ⟨rfl, hb⟩; (try replace hb := below_undrew hb); replace a0 := cell_keep a0 al hb; replace a1 := cell_keep a1 al hb; replace a2 := cell_keep a2 al hb; replace al := lt_keep al hb; replace l0 := cell_keep l0 ll hb; replace l1 := cell_keep l1 ll hb; replace ll := lt_keep ll hb; replace x0 := cell_keep x0 xl hb; replace x1 := cell_keep x1 xl hb; replace x2 := cell_keep x2 xl hb; replace xl := lt_keep xl hb; replace OW := Lib.hid (OW.out.keep hb); replace Ox := Lib.hid (Ox.out.keep hb); have hs7 := Lib.hid hb.size; replace B := Lib.hid (below_next B.out hb); clear hb)
          | (go_at_call 8; refine (impl_SidesOfParts _ _ _ _ _ _ _ _ _ (by exact Ox.out.rd)).mono ?_; rintro e wv ⟨AG, nG, cG, rfl, ownG, hb⟩; (try replace hb := below_undrew hb); replace a0 := cell_keep a0 al hb; replace a1 := cell_keep a1 al hb; replace a2 := cell_keep a2 al hb; replace al := lt_keep al hb; replace l0 := cell_keep l0 ll hb; replace l1 := cell_keep l1 ll hb; replace ll := lt_keep ll hb; replace x0 := cell_keep x0 xl hb; replace x1 := cell_keep x1 xl hb; replace x2 := cell_keep x2 xl hb; replace xl := lt_keep xl hb; replace OW := Lib.hid (OW.out.keep hb); replace Ox := Lib.hid (Ox.out.keep hb); have hs8 := Lib.hid hb.size; replace B := Lib.hid (below_next B.out hb); have OG := Lib.hid ownG; clear ownG; clear hb))
      have PS := Lib.hid (sidesV_small V0 G0 xs0 la1 lb1)
      have PN := Lib.hid OG.out.len
      have SZ := Lib.hid (show nG ≤ 5000 by rw [← PN.out]; have := PS.out.1; omega)
      go_wp2_with fail
      refine (eqIntSS_any _ _ _ _ _ _ _ _ _ _ _ _ OG.out OW.out (by rw [← OG.out.len]; have := PS.out.1; omega)).mono ?_
      rintro e wv ⟨rfl, hb⟩
      replace a0 := cell_keep a0 al hb
      replace a1 := cell_keep a1 al hb
      replace a2 := cell_keep a2 al hb
      replace al := lt_keep al hb
      replace l0 := cell_keep l0 ll hb
      replace l1 := cell_keep l1 ll hb
      replace ll := lt_keep ll hb
      replace x0 := cell_keep x0 xl hb
      replace x1 := cell_keep x1 xl hb
      replace x2 := cell_keep x2 xl hb
      replace xl := lt_keep xl hb
      replace OW := Lib.hid (OW.out.keep hb)
      replace Ox := Lib.hid (Ox.out.keep hb)
      replace OG := Lib.hid (OG.out.keep hb)
      have hs9 := Lib.hid hb.size
      replace B := Lib.hid (below_next B.out hb)
      clear hb
      go_wp2_with fail
      go_region_held3 (fun w' => w'.cell? ⟨w.heap.size, 0, none⟩ = some (.int .i64 V0) ∧ w'.cell? ⟨w.heap.size, 1, none⟩ = some (.int .i64 G0) ∧ w'.cell? ⟨w.heap.size, 2, none⟩ = some (.slice A0 n0 c0) ∧ w'.cell? ⟨w.heap.size + 1, 0, none⟩ = some (.int .i64 la1) ∧ w'.cell? ⟨w.heap.size + 1, 1, none⟩ = some (.int .i64 lb1) ∧ w'.cell? ⟨x, 0, none⟩ = some (.int .i64 V0) ∧ w'.cell? ⟨x, 1, none⟩ = some (.int .i64 G0) ∧ w'.cell? ⟨x, 2, none⟩ = some (.slice (some ⟨gx, 0, none⟩) n0 n0)) (first | exact ⟨a0, a1, a2, l0, l1, x0, x1, x2⟩)
        (first
          | (go_at_call 6; refine (toBoard_any _ _ _ _ _ _ _ (by exact (ha0.keep B.out).drew1) (by omega)).mono ?_; rintro e wv ⟨gy, rfl, owny, hb⟩; (try replace hb := below_undrew hb); replace a0 := cell_keep a0 al hb; replace a1 := cell_keep a1 al hb; replace a2 := cell_keep a2 al hb; replace al := lt_keep al hb; replace l0 := cell_keep l0 ll hb; replace l1 := cell_keep l1 ll hb; replace ll := lt_keep ll hb; replace x0 := cell_keep x0 xl hb; replace x1 := cell_keep x1 xl hb; replace x2 := cell_keep x2 xl hb; replace xl := lt_keep xl hb; replace OW := Lib.hid (OW.out.keep hb); replace Ox := Lib.hid (Ox.out.keep hb); replace OG := Lib.hid (OG.out.keep hb); have hs10 := Lib.hid hb.size; replace B := Lib.hid (below_next B.out hb); have Oy := Lib.hid owny; have SPy := Lib.hid owny.span; clear owny; clear hb)
          | (go_at_call 10; refine (eqBoard_any _ _ _ _ _ _ _ _ _ _ _ Ox.out.rd Oy.out.rd).mono ?_; simp only [decide_true]; rintro e wv ⟨rfl, hb⟩; (try replace hb := below_undrew hb); replace a0 := cell_keep a0 al hb; replace a1 := cell_keep a1 al hb; replace a2 := cell_keep a2 al hb; replace al := lt_keep al hb; replace l0 := cell_keep l0 ll hb; replace l1 := cell_keep l1 ll hb; replace ll := lt_keep ll hb; replace x0 := cell_keep x0 xl hb; replace x1 := cell_keep x1 xl hb; replace x2 := cell_keep x2 xl hb; replace xl := lt_keep xl hb; replace OW := Lib.hid (OW.out.keep hb); replace Ox := Lib.hid (Ox.out.keep hb); replace OG := Lib.hid (OG.out.keep hb); have hs11 := Lib.hid hb.size; replace B := Lib.hid (below_next B.out hb); clear hb Oy SPy))
      go_wp2_with fail
      refine (markBoard_any _ _ _ _ _ _ 1 _ _ Ox.out (by omega) (by omega)).mono ?_
      rintro e wv ⟨rfl, Ox', hg⟩
      replace a0 := cell_mark a0 hg (row_ne fun b hb => by have := SPx.out b hb; have := hz.out; have := hzx.out; have := hs1.out; have := hs2.out; have := hs3.out; have := hs4.out; have := hs5.out; have := hs6.out; have := hs7.out; have := hs8.out; have := hs9.out; have := hs10.out; have := hs11.out; omega)
      replace a1 := cell_mark a1 hg (row_ne fun b hb => by have := SPx.out b hb; have := hz.out; have := hzx.out; have := hs1.out; have := hs2.out; have := hs3.out; have := hs4.out; have := hs5.out; have := hs6.out; have := hs7.out; have := hs8.out; have := hs9.out; have := hs10.out; have := hs11.out; omega)
      replace a2 := cell_mark a2 hg (row_ne fun b hb => by have := SPx.out b hb; have := hz.out; have := hzx.out; have := hs1.out; have := hs2.out; have := hs3.out; have := hs4.out; have := hs5.out; have := hs6.out; have := hs7.out; have := hs8.out; have := hs9.out; have := hs10.out; have := hs11.out; omega)
      replace al := Nat.lt_of_lt_of_le al hg.size
      replace l0 := cell_mark l0 hg (row_ne fun b hb => by have := SPx.out b hb; have := hz.out; have := hzx.out; have := hs1.out; have := hs2.out; have := hs3.out; have := hs4.out; have := hs5.out; have := hs6.out; have := hs7.out; have := hs8.out; have := hs9.out; have := hs10.out; have := hs11.out; omega)
      replace l1 := cell_mark l1 hg (row_ne fun b hb => by have := SPx.out b hb; have := hz.out; have := hzx.out; have := hs1.out; have := hs2.out; have := hs3.out; have := hs4.out; have := hs5.out; have := hs6.out; have := hs7.out; have := hs8.out; have := hs9.out; have := hs10.out; have := hs11.out; omega)
      replace ll := Nat.lt_of_lt_of_le ll hg.size
      replace x0 := cell_mark x0 hg (row_ne fun b hb => by have := SPx.out b hb; have := hz.out; have := hzx.out; have := hs1.out; have := hs2.out; have := hs3.out; have := hs4.out; have := hs5.out; have := hs6.out; have := hs7.out; have := hs8.out; have := hs9.out; have := hs10.out; have := hs11.out; omega)
      replace x1 := cell_mark x1 hg (row_ne fun b hb => by have := SPx.out b hb; have := hz.out; have := hzx.out; have := hs1.out; have := hs2.out; have := hs3.out; have := hs4.out; have := hs5.out; have := hs6.out; have := hs7.out; have := hs8.out; have := hs9.out; have := hs10.out; have := hs11.out; omega)
      replace x2 := cell_mark x2 hg (row_ne fun b hb => by have := SPx.out b hb; have := hz.out; have := hzx.out; have := hs1.out; have := hs2.out; have := hs3.out; have := hs4.out; have := hs5.out; have := hs6.out; have := hs7.out; have := hs8.out; have := hs9.out; have := hs10.out; have := hs11.out; omega)
      replace xl := Nat.lt_of_lt_of_le xl hg.size
      replace OW := Lib.hid (OW.out.other hg fun g9 h91 h92 => row_ne fun b hb => by have := SPx.out b hb; have := hz.out; have := hzx.out; have := hs1.out; have := hs2.out; have := hs3.out; have := hs4.out; have := hs5.out; have := hs6.out; have := hs7.out; have := hs8.out; have := hs9.out; have := hs10.out; have := hs11.out; omega)
      replace OG := Lib.hid (OG.out.other hg fun g9 h91 h92 => row_ne fun b hb => by have := SPx.out b hb; have := hz.out; have := hzx.out; have := hs1.out; have := hs2.out; have := hs3.out; have := hs4.out; have := hs5.out; have := hs6.out; have := hs7.out; have := hs8.out; have := hs9.out; have := hs10.out; have := hs11.out; omega)
      replace B := Lib.hid (B.out.grown hg B.out.size (row_ge fun b hb => by have := SPx.out b hb; have := hz.out; have := hzx.out; have := hs1.out; have := hs2.out; have := hs3.out; have := hs4.out; have := hs5.out; have := hs6.out; have := hs7.out; have := hs8.out; have := hs9.out; have := hs10.out; have := hs11.out; omega))
      have hs12 := Lib.hid hg.size
      replace Ox := Lib.hid Ox'; clear Ox' hg
      go_wp2_with fail
      refine (eqIntSS_any _ _ _ _ _ _ _ _ _ _ _ _ OG.out OW.out (by rw [← OG.out.len]; have := PS.out.1; omega)).mono ?_
      rintro e wv ⟨rfl, hb⟩
      replace a0 := cell_keep a0 al hb
      replace a1 := cell_keep a1 al hb
      replace a2 := cell_keep a2 al hb
      replace al := lt_keep al hb
      replace l0 := cell_keep l0 ll hb
      replace l1 := cell_keep l1 ll hb
      replace ll := lt_keep ll hb
      replace x0 := cell_keep x0 xl hb
      replace x1 := cell_keep x1 xl hb
      replace x2 := cell_keep x2 xl hb
      replace xl := lt_keep xl hb
      replace OW := Lib.hid (OW.out.keep hb)
      replace Ox := Lib.hid (Ox.out.keep hb)
      replace OG := Lib.hid (OG.out.keep hb)
      have hs13 := Lib.hid hb.size
      replace B := Lib.hid (below_next B.out hb)
      clear hb
      go_wp2_with fail
      refine (markIntSS_any _ _ _ _ _ _ 1 _ OG.out PS.out.2 SZ.out (by omega)).mono ?_
      rintro e wv ⟨rfl, OG', hg⟩
      have hkk := markTo_bd (k0 := 1) PS.out.2 nG
      obtain ⟨kk, hk9⟩ : ∃ kk, kk = (markTo (sidesV V0 G0 xs0 la1 lb1) 1 nG).2 := ⟨_, rfl⟩
      rw [← hk9] at hkk ⊢
      have KK := Lib.hid hk9
      have hkk0 : decide (kk < 0) = false := by simp; omega
      clear hk9
      replace a0 := cell_in a0 hg al (by have := hz.out; have := hzx.out; have := hs1.out; have := hs2.out; have := hs3.out; have := hs4.out; have := hs5.out; have := hs6.out; have := hs7.out; have := hs8.out; have := hs9.out; have := hs10.out; have := hs11.out; have := hs12.out; have := hs13.out; omega)
      replace a1 := cell_in a1 hg al (by have := hz.out; have := hzx.out; have := hs1.out; have := hs2.out; have := hs3.out; have := hs4.out; have := hs5.out; have := hs6.out; have := hs7.out; have := hs8.out; have := hs9.out; have := hs10.out; have := hs11.out; have := hs12.out; have := hs13.out; omega)
      replace a2 := cell_in a2 hg al (by have := hz.out; have := hzx.out; have := hs1.out; have := hs2.out; have := hs3.out; have := hs4.out; have := hs5.out; have := hs6.out; have := hs7.out; have := hs8.out; have := hs9.out; have := hs10.out; have := hs11.out; have := hs12.out; have := hs13.out; omega)
      replace al := Nat.lt_of_lt_of_le al hg.size
      replace l0 := cell_in l0 hg ll (by have := hz.out; have := hzx.out; have := hs1.out; have := hs2.out; have := hs3.out; have := hs4.out; have := hs5.out; have := hs6.out; have := hs7.out; have := hs8.out; have := hs9.out; have := hs10.out; have := hs11.out; have := hs12.out; have := hs13.out; omega)
      replace l1 := cell_in l1 hg ll (by have := hz.out; have := hzx.out; have := hs1.out; have := hs2.out; have := hs3.out; have := hs4.out; have := hs5.out; have := hs6.out; have := hs7.out; have := hs8.out; have := hs9.out; have := hs10.out; have := hs11.out; have := hs12.out; have := hs13.out; omega)
      replace ll := Nat.lt_of_lt_of_le ll hg.size
      replace x0 := cell_in x0 hg xl (by have := hz.out; have := hzx.out; have := hs1.out; have := hs2.out; have := hs3.out; have := hs4.out; have := hs5.out; have := hs6.out; have := hs7.out; have := hs8.out; have := hs9.out; have := hs10.out; have := hs11.out; have := hs12.out; have := hs13.out; omega)
      replace x1 := cell_in x1 hg xl (by have := hz.out; have := hzx.out; have := hs1.out; have := hs2.out; have := hs3.out; have := hs4.out; have := hs5.out; have := hs6.out; have := hs7.out; have := hs8.out; have := hs9.out; have := hs10.out; have := hs11.out; have := hs12.out; have := hs13.out; omega)
      replace x2 := cell_in x2 hg xl (by have := hz.out; have := hzx.out; have := hs1.out; have := hs2.out; have := hs3.out; have := hs4.out; have := hs5.out; have := hs6.out; have := hs7.out; have := hs8.out; have := hs9.out; have := hs10.out; have := hs11.out; have := hs12.out; have := hs13.out; omega)
      replace xl := Nat.lt_of_lt_of_le xl hg.size
      replace OW := Lib.hid (OW.out.within hg (by have := hz.out; have := hzx.out; have := hs1.out; have := hs2.out; have := hs3.out; have := hs4.out; have := hs5.out; have := hs6.out; have := hs7.out; have := hs8.out; have := hs9.out; have := hs10.out; have := hs11.out; have := hs12.out; have := hs13.out; omega))
      replace Ox := Lib.hid (Ox.out.within hg (fun a ha => by have := SPx.out a ha; have := hz.out; have := hzx.out; have := hs1.out; have := hs2.out; have := hs3.out; have := hs4.out; have := hs5.out; have := hs6.out; have := hs7.out; have := hs8.out; have := hs9.out; have := hs10.out; have := hs11.out; have := hs12.out; have := hs13.out; omega))
      replace B := Lib.hid (below_within B.out hg (by have := hz.out; have := hzx.out; have := hs1.out; have := hs2.out; have := hs3.out; have := hs4.out; have := hs5.out; have := hs6.out; have := hs7.out; have := hs8.out; have := hs9.out; have := hs10.out; have := hs11.out; have := hs12.out; have := hs13.out; omega))
      have hs14 := Lib.hid hg.size
      replace OG := Lib.hid OG'; clear OG' hg
      go_wp2_with fail
      refine (heldIntSS_any _ _ _ _ _ (sidesV V0 G0 xs0 la1 lb1) 1 _ OG.out PS.out.2 SZ.out PN.out (by omega)).mono ?_
      rw [← KK.out]
      rintro e wv ⟨rfl, hb⟩
      replace a0 := cell_keep a0 al hb
      replace a1 := cell_keep a1 al hb
      replace a2 := cell_keep a2 al hb
      replace al := lt_keep al hb
      replace l0 := cell_keep l0 ll hb
      replace l1 := cell_keep l1 ll hb
      replace ll := lt_keep ll hb
      replace x0 := cell_keep x0 xl hb
      replace x1 := cell_keep x1 xl hb
      replace x2 := cell_keep x2 xl hb
      replace xl := lt_keep xl hb
      replace OW := Lib.hid (OW.out.keep hb)
      replace Ox := Lib.hid (Ox.out.keep hb)
      replace OG := Lib.hid (OG.out.keep hb)
      have hs15 := Lib.hid hb.size
      replace B := Lib.hid (below_next B.out hb)
      clear hb
      go_wp2_with fail
      go_region_held3 (fun w' => w'.cell? ⟨w.heap.size, 0, none⟩ = some (.int .i64 V0) ∧ w'.cell? ⟨w.heap.size, 1, none⟩ = some (.int .i64 G0) ∧ w'.cell? ⟨w.heap.size, 2, none⟩ = some (.slice A0 n0 c0) ∧ w'.cell? ⟨w.heap.size + 1, 0, none⟩ = some (.int .i64 la1) ∧ w'.cell? ⟨w.heap.size + 1, 1, none⟩ = some (.int .i64 lb1) ∧ w'.cell? ⟨x, 0, none⟩ = some (.int .i64 V0) ∧ w'.cell? ⟨x, 1, none⟩ = some (.int .i64 G0) ∧ w'.cell? ⟨x, 2, none⟩ = some (.slice (some ⟨gx, 0, none⟩) n0 n0)) (first | exact ⟨a0, a1, a2, l0, l1, x0, x1, x2⟩)
        (first
          | (go_at_call 6; refine (toBoard_any _ _ _ _ _ _ _ (by exact (ha0.keep B.out).drew1) (by omega)).mono ?_; rintro e wv ⟨gz, rfl, ownz, hb⟩; (try replace hb := below_undrew hb); replace a0 := cell_keep a0 al hb; replace a1 := cell_keep a1 al hb; replace a2 := cell_keep a2 al hb; replace al := lt_keep al hb; replace l0 := cell_keep l0 ll hb; replace l1 := cell_keep l1 ll hb; replace ll := lt_keep ll hb; replace x0 := cell_keep x0 xl hb; replace x1 := cell_keep x1 xl hb; replace x2 := cell_keep x2 xl hb; replace xl := lt_keep xl hb; replace OW := Lib.hid (OW.out.keep hb); replace Ox := Lib.hid (Ox.out.keep hb); replace OG := Lib.hid (OG.out.keep hb); (try replace Oz := Lib.hid (Oz.out.keep hb)); have hs16 := Lib.hid hb.size; replace B := Lib.hid (below_next B.out hb); have Oz := Lib.hid ownz; have SPz := Lib.hid ownz.span; clear ownz; clear hb)
          | (go_at_call 7; refine (toLeaper_any _ _ _).mono ?_; rintro e wv ⟨rfl, hb⟩; (try replace hb := below_undrew hb); replace a0 := cell_keep a0 al hb; replace a1 := cell_keep a1 al hb; replace a2 := cell_keep a2 al hb; replace al := lt_keep al hb; replace l0 := cell_keep l0 ll hb; replace l1 := cell_keep l1 ll hb; replace ll := lt_keep ll hb; replace x0 := cell_keep x0 xl hb; replace x1 := cell_keep x1 xl hb; replace x2 := cell_keep x2 xl hb; replace xl := lt_keep xl hb; replace OW := Lib.hid (OW.out.keep hb); replace Ox := Lib.hid (Ox.out.keep hb); replace OG := Lib.hid (OG.out.keep hb); (try replace Oz := Lib.hid (Oz.out.keep hb)); have hs17 := Lib.hid hb.size; replace B := Lib.hid (below_next B.out hb); clear hb)
          | (go_at_call 8; refine (impl_SidesOfParts _ _ _ _ _ _ _ _ _ (by exact Oz.out.rd)).mono ?_; rintro e wv ⟨AH, nH, cH, rfl, ownH, hb⟩; (try replace hb := below_undrew hb); replace a0 := cell_keep a0 al hb; replace a1 := cell_keep a1 al hb; replace a2 := cell_keep a2 al hb; replace al := lt_keep al hb; replace l0 := cell_keep l0 ll hb; replace l1 := cell_keep l1 ll hb; replace ll := lt_keep ll hb; replace x0 := cell_keep x0 xl hb; replace x1 := cell_keep x1 xl hb; replace x2 := cell_keep x2 xl hb; replace xl := lt_keep xl hb; replace OW := Lib.hid (OW.out.keep hb); replace Ox := Lib.hid (Ox.out.keep hb); replace OG := Lib.hid (OG.out.keep hb); have hs18 := Lib.hid hb.size; replace B := Lib.hid (below_next B.out hb); have OH := Lib.hid ownH; clear ownH; clear hb))
      all_goals
        clear Oz SPz
        go_wp2_with fail
        refine (eqIntSS_any _ _ _ _ _ _ _ _ _ _ _ _ OH.out OW.out (by rw [← OH.out.len]; have := PS.out.1; omega)).mono ?_
        rintro e wv ⟨rfl, hb⟩
        replace a0 := cell_keep a0 al hb
        replace a1 := cell_keep a1 al hb
        replace a2 := cell_keep a2 al hb
        replace al := lt_keep al hb
        replace l0 := cell_keep l0 ll hb
        replace l1 := cell_keep l1 ll hb
        replace ll := lt_keep ll hb
        replace x0 := cell_keep x0 xl hb
        replace x1 := cell_keep x1 xl hb
        replace x2 := cell_keep x2 xl hb
        replace xl := lt_keep xl hb
        replace OW := Lib.hid (OW.out.keep hb)
        replace Ox := Lib.hid (Ox.out.keep hb)
        replace OG := Lib.hid (OG.out.keep hb)
        have hs19 := Lib.hid hb.size
        replace B := Lib.hid (below_next B.out hb)
        clear hb OH
        go_wp2_with fail
        refine (heldIntSS_any _ _ _ _ _ (sidesV V0 G0 xs0 la1 lb1) 1 _ OG.out PS.out.2 SZ.out PN.out (by omega)).mono ?_
        rw [← KK.out]
        rintro e wv ⟨rfl, hb⟩
        replace a0 := cell_keep a0 al hb
        replace a1 := cell_keep a1 al hb
        replace a2 := cell_keep a2 al hb
        replace al := lt_keep al hb
        replace l0 := cell_keep l0 ll hb
        replace l1 := cell_keep l1 ll hb
        replace ll := lt_keep ll hb
        replace x0 := cell_keep x0 xl hb
        replace x1 := cell_keep x1 xl hb
        replace x2 := cell_keep x2 xl hb
        replace xl := lt_keep xl hb
        replace OW := Lib.hid (OW.out.keep hb)
        replace Ox := Lib.hid (Ox.out.keep hb)
        replace OG := Lib.hid (OG.out.keep hb)
        have hs20 := Lib.hid hb.size
        replace B := Lib.hid (below_next B.out hb)
        clear hb
        go_wp2
        go_ret
        exact ⟨rfl, B.out⟩

end Go.Proofs.YtomfgjbicpeggaaGreat
