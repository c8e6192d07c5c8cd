/-
  Contracts: the counting of the ways that a plan allows is made.
  Contracts: LeapsFrom, DegreesOf.
  Contracts: DegreesOf, CountLeaps.
  Pure: all tours from a cell, and how the program counts them.
  Contracts: the model's counts of the tours.
  Contracts: a leaper, a board and cells of it.
  Contracts: the program's count of the tours from a cell.
  The walk of the exact law on CountToursFrom: it answers true, and what was there stays.
-/
import Derived.Test.YtnmmgalidkambaaGreatDoorBunHCountToursFrom3
import Derived.Test.YtnmmgalidkambaaGreatDoorK1
import Derived.Laws.EntriesVeiled
import Derived.Test.YtnmmgalidkambaaGreatDoorBunHCountToursFrom2
import Derived.Test.YtnmmgalidkambaaGreatDoorZ1
import Derived.Test.YtnmmgalidkambaaGreatDoorB5
import Derived.Test.YtnmmgalidkambaaGreatDoorLaw0
namespace Go.Proofs.YtnmmgalidkambaaGreatDoor
open Go.RowKit Go.Shelf

set_option maxRecDepth 100000 in
set_option maxHeartbeats 4000000 in
theorem countBy_any (G P : List Nat) (m : Nat) (w : World) (hG : G.length = 65) (hGb : ∀ x ∈ G, x < 18446744073709551616) (hpop : popN 64 (G.getD 0 0) = m + 1) (hm : m < 20) (hT : Tab64 w) (hgbT : 0 < w.heap.size) :
    Calls Tryz.prog 56 #[.agg (words G).toArray, .agg (words P).toArray] w fun e w' => ∃ gb pb lb kb cb B, e = .returned (cntV gb pb lb kb cb) ∧ CntAt w' gb pb lb kb cb B G P m 0 ∧ Below w.heap.size w w' ∧ w.heap.size ≤ B := by
  obtain ⟨all, hall⟩ : ∃ all, all = G.getD 0 0 := ⟨_, rfl⟩
  have hal64 : all < 18446744073709551616 := by rw [hall, List.getD_eq_getElem?_getD, List.getElem?_eq_getElem (by omega)]; exact hGb _ (List.getElem_mem _)
  have HSZ := Lib.hid (fun V => size_any all hal64 V)
  rw [← hall] at hpop
  rw [hpop] at HSZ
  obtain ⟨W2, hW2⟩ : ∃ W2, W2 = (w.alloc (.cells (words G).toArray 58)).alloc (.cells (words P).toArray 76) := ⟨_, rfl⟩
  have hs2 : W2.heap.size = w.heap.size + 2 := by rw [hW2]; simp
  have hB2 : Below w.heap.size w W2 := by rw [hW2]; exact below_new (below_new (Below.refl _ _) _) _
  have hg2 : W2.heap[w.heap.size]? = some (.cells (words G).toArray 58 (0, 0)) := by
    rw [hW2, Below.heap_alloc _ _ _ (by simp)]; exact World.alloc_heap_new _ _
  have hp2 : W2.heap[w.heap.size + 1]? = some (.cells (words P).toArray 76 (0, 0)) := by
    have h := World.alloc_heap_new (w.alloc (.cells (words G).toArray 58)) (.cells (words P).toArray 76)
    rw [World.size_alloc] at h
    rw [hW2]; exact h
  have c0 : W2.cell? ⟨w.heap.size, 0, none⟩ = some (.int .u64 (all : Int)) := by
    rw [cell_of_row _ _ _ _ _ _ hg2, List.getElem?_toArray, words, List.getElem?_map, hall, List.getD_eq_getElem?_getD, List.getElem?_eq_getElem (by omega)]; rfl
  have HG2 := Lib.hid hg2; have HP2 := Lib.hid hp2; have HB2 := Lib.hid hB2
  have HTT := Lib.hid hT
  obtain ⟨V1, hV1⟩ : ∃ V1, V1 = (words G).toArray := ⟨_, rfl⟩
  obtain ⟨V2, hV2⟩ : ∃ V2, V2 = (words P).toArray := ⟨_, rfl⟩
  have HV1 := Lib.hid hV1; have HV2 := Lib.hid hV2
  rw [← hV1, ← hV2] at hW2 ⊢
  clear hg2 hp2 hB2 hT hpop hall hV1 hV2
  have hsub : IntKind.i64.wrap (((m + 1 : Nat) : Int) - 1) = (m : Int) := by rw [IntKind.wrap_i64]; omega
  have hmm := @run_makeMap Tryz.prog
  go_enter Tryz.func56, Tryz.ntmps56
  go_upto_region 1 with fail
  rw [← hW2]
  clear hW2
  go_wp2_with fail
  refine (HSZ.out _).mono ?_
  rintro e wv ⟨rfl, hb⟩
  go_upto_region 4 with fail
  obtain ⟨lb, hlb⟩ : ∃ lb, lb = wv.heap.size := ⟨_, rfl⟩
  obtain ⟨W3, hW3⟩ : ∃ W3, W3 = ((((wv.alloc (Obj.cells #[Value.int IntKind.i64 (m : Int)] 3)).alloc (Obj.map #[] 0)).alloc (Obj.cells #[Value.map (some (wv.heap.size + 1))] 96)).alloc (Obj.cells #[Value.nilFunc] 61)) := ⟨_, rfl⟩
  have hl3 : W3.heap[lb]? = some (.cells #[.int .i64 (m : Int)] 3 (0, 0)) := by
    rw [hW3, hlb, Below.heap_alloc _ _ _ (by simp; omega), Below.heap_alloc _ _ _ (by simp; omega), Below.heap_alloc _ _ _ (by simp)]; exact World.alloc_heap_new _ _
  have hm3 : W3.heap[lb + 1]? = some (.map #[] 0) := by
    have h := World.alloc_heap_new (wv.alloc (Obj.cells #[Value.int IntKind.i64 (m : Int)] 3)) (.map #[] 0)
    rw [World.size_alloc] at h
    rw [hW3, hlb, Below.heap_alloc _ _ _ (by simp), Below.heap_alloc _ _ _ (by simp)]; exact h
  have hk3 : W3.heap[lb + 1 + 1]? = some (.cells #[.map (some (lb + 1))] 96 (0, 0)) := by
    have h := World.alloc_heap_new ((wv.alloc (Obj.cells #[Value.int IntKind.i64 (m : Int)] 3)).alloc (.map #[] 0)) (Obj.cells #[Value.map (some (wv.heap.size + 1))] 96)
    rw [World.size_alloc, World.size_alloc] at h
    rw [hW3, hlb, Below.heap_alloc _ _ _ (by simp)]; exact h
  have hc3 : W3.heap[lb + 1 + 1 + 1]? = some (.cells #[.nilFunc] 61 (0, 0)) := by
    have h := World.alloc_heap_new (((wv.alloc (Obj.cells #[Value.int IntKind.i64 (m : Int)] 3)).alloc (.map #[] 0)).alloc (Obj.cells #[Value.map (some (wv.heap.size + 1))] 96)) (Obj.cells #[Value.nilFunc] 61)
    rw [World.size_alloc, World.size_alloc, World.size_alloc] at h
    rw [hW3, hlb]; exact h
  have hb3 : Below wv.heap.size wv W3 := by rw [hW3]; exact below_new (below_new (below_new (below_new (Below.refl _ _) _) _) _) _
  have hs3 : W3.heap.size = lb + 4 := by rw [hW3, hlb]; simp
  have hB3 : Below w.heap.size w W3 := below_next (below_next HB2.out hb) hb3
  have hg3 := (hb3.block w.heap.size (by have := hb.size; omega)).trans ((hb.block w.heap.size (by omega)).trans HG2.out)
  have hp3 := (hb3.block (w.heap.size + 1) (by have := hb.size; omega)).trans ((hb.block (w.heap.size + 1) (by omega)).trans HP2.out)
  have hlbw : w.heap.size + 2 ≤ lb := by have := hb.size; omega
  have c3 : W3.cell? ⟨lb + 1 + 1 + 1, 0, none⟩ = some .nilFunc := by rw [cell_of_row _ _ _ _ _ _ hc3]; rfl
  have f3 : W3.frozen? ⟨lb + 1 + 1 + 1, 0, none⟩ = false := frozen_of_row _ _ _ _ _ hc3
  rw [← hW3, ← hlb]
  have HB3 := Lib.hid hB3; have HL3 := Lib.hid hl3; have HM3 := Lib.hid hm3; have HK3 := Lib.hid hk3; have HC3 := Lib.hid hc3; have HG3 := Lib.hid hg3; have HP3 := Lib.hid hp3
  clear hW3 hlb hl3 hm3 hk3 hc3 hg3 hp3 hB3 hb hb3 hs2 HG2 HP2 HB2 hmm hsub
  go_wp2_with fail
  go_ret
  have hset := grown_set W3 (lb + 1 + 1 + 1) 0 (cntV w.heap.size (w.heap.size + 1) lb (lb + 1 + 1) (lb + 1 + 1 + 1))
  have kp : ∀ {b : Nat} {o : Obj}, W3.heap[b]? = some o → b ≠ lb + 1 + 1 + 1 → (W3.setCell ⟨lb + 1 + 1 + 1, 0, none⟩ (cntV w.heap.size (w.heap.size + 1) lb (lb + 1 + 1) (lb + 1 + 1 + 1))).heap[b]? = some o := fun {b o} h1 hne => (hset.block b (lt_of_at h1) (by simpa using hne)).trans h1
  have hBl : Below w.heap.size w (W3.setCell ⟨lb + 1 + 1 + 1, 0, none⟩ (cntV w.heap.size (w.heap.size + 1) lb (lb + 1 + 1) (lb + 1 + 1 + 1))) := HB3.out.grown hset HB3.out.size (fun q e => by cases e; omega)
  refine ⟨w.heap.size, w.heap.size + 1, lb, lb + 1 + 1, lb + 1 + 1 + 1, lb + 1, rfl, ⟨kp HG3.out (by omega), kp HP3.out (by omega), kp HL3.out (by omega), kp HK3.out (by omega), ?_, ?_, HTT.out.keep hgbT hBl, Nat.lt_of_lt_of_le hgbT hBl.size, by omega⟩, hBl, by omega⟩
  · have h := heap_set (j := 0) (cntV w.heap.size (w.heap.size + 1) lb (lb + 1 + 1) (lb + 1 + 1 + 1)) HC3.out
    exact h
  · refine ⟨.map [], World.ownsMap.kept (w := W3) ?_ hset (by simp), known_nil _⟩
    exact ⟨#[], 0, HM3.out, ⟨by simp, Go.MapKept.stamped_empty 0, by simp⟩, Nat.le_refl _, rfl⟩

/-! ### A plan that leaves each place to all cells -/
theorem info_plan : (Tryz.prog.info? 76).map (·.size) = some 20 := by kernel_rfl
def zeroPlanX : Array Value := #[.int .u64 0, .int .u64 0, .int .u64 0, .int .u64 0, .int .u64 0, .int .u64 0, .int .u64 0, .int .u64 0, .int .u64 0, .int .u64 0, .int .u64 0, .int .u64 0, .int .u64 0, .int .u64 0, .int .u64 0, .int .u64 0, .int .u64 0, .int .u64 0, .int .u64 0, .int .u64 0]
theorem zero_plan : zeroPlanX = (words (List.replicate 20 0)).toArray := by rfl
def plL (all k : Nat) : List Nat := List.replicate k all ++ List.replicate (20 - k) 0
theorem plL_len {all k : Nat} (h : k ≤ 20) : (plL all k).length = 20 := by simp [plL]; omega
theorem plL_set {all k : Nat} (h : k < 20) : (plL all k).set k all = plL all (k + 1) := by
  unfold plL
  rw [List.set_append_right _ _ (by simp), List.length_replicate, Nat.sub_self]
  obtain ⟨m, hm⟩ : ∃ m, 20 - k = m + 1 := ⟨20 - k - 1, by omega⟩
  rw [hm, List.replicate_succ, List.set_cons_zero, show 20 - (k + 1) = m by omega, List.replicate_succ', List.append_assoc]
  rfl
theorem plL_full (all : Nat) : plL all 20 = List.replicate 20 all := by simp [plL]
set_option maxRecDepth 100000 in
theorem plan_load {W : World} {g : Nat} {P : List Nat} (h : W.heap[g]? = some (.cells (words P).toArray 76 (0, 0))) (hP : P.length = 20) :
    (Instr.loadAt 76 (.pointer (some ⟨g, 0, none⟩))).run Tryz.prog W = .ok (.agg (words P).toArray) W :=
  run_loadAt_mid (P := Tryz.prog) W g 0 76 (words P) (.array _ _) (fun j v hv => by rw [Nat.zero_add, cell_of_row _ _ _ _ _ _ h]; simpa using hv) rfl rfl (by rw [info_plan]; simp [words, hP])
set_option maxRecDepth 100000 in
theorem plan_store {W : World} {g : Nat} {c : Array Value} {P : List Nat} (h : W.heap[g]? = some (.cells c 76 (0, 0))) (hc : c.size = 20) (hP : P.length = 20) :
    (Instr.storeAt 76 (.pointer (some ⟨g, 0, none⟩)) (.agg (words P).toArray)).run Tryz.prog W = .ok () (W.setRow g (words P).toArray) := by
  simp only [Instr.storeAt, Instr.sureAddr, Sem.run_bind, Sem.run_pure, Result.andThen_ok]
  exact run_storeVar_row _ _ _ _ _ _ h (by rw [info_plan]; simp [words, hP]) (by simp [words, hP, hc]) (all_oneCell_toArray (words_one _))

set_option maxRecDepth 100000 in
set_option maxHeartbeats 2000000 in
theorem openPlan_any (G : List Nat) (w : World) (hG : G.length = 65) :
    Calls Tryz.prog 57 #[.agg (words G).toArray] w fun e w' => e = .returned (.agg (words (List.replicate 20 (G.getD 0 0))).toArray) ∧ Below w.heap.size w w' := by
  obtain ⟨all, hall⟩ : ∃ all, all = G.getD 0 0 := ⟨_, rfl⟩
  obtain ⟨W2, hW2⟩ : ∃ W2, W2 = ((w.alloc (.cells (words G).toArray 58)).alloc (.cells zeroPlanX 76)).alloc (.cells zeroPlanX 76) := ⟨_, rfl⟩
  have hs2 : W2.heap.size = w.heap.size + 3 := by rw [hW2]; simp
  have hB2 : Below w.heap.size w W2 := by rw [hW2]; exact below_new (below_new (below_new (Below.refl _ _) _) _) _
  have hg2 : W2.heap[w.heap.size]? = some (.cells (words G).toArray 58 (0, 0)) := by
    rw [hW2, Below.heap_alloc _ _ _ (by simp; omega), Below.heap_alloc _ _ _ (by simp)]; exact World.alloc_heap_new _ _
  have hr2 : W2.heap[w.heap.size + 1]? = some (.cells zeroPlanX 76 (0, 0)) := by
    have h := World.alloc_heap_new (w.alloc (.cells (words G).toArray 58)) (.cells zeroPlanX 76)
    rw [World.size_alloc] at h
    rw [hW2, Below.heap_alloc _ _ _ (by simp)]; exact h
  have hp2 : W2.heap[w.heap.size + 1 + 1]? = some (.cells (words (plL all 0)).toArray 76 (0, 0)) := by
    have h := World.alloc_heap_new ((w.alloc (.cells (words G).toArray 58)).alloc (.cells zeroPlanX 76)) (.cells zeroPlanX 76)
    rw [World.size_alloc, World.size_alloc] at h
    rw [hW2]; exact h
  have c0 : W2.cell? ⟨w.heap.size, 0, none⟩ = some (.int .u64 (all : Int)) := by
    rw [cell_of_row _ _ _ _ _ _ hg2, List.getElem?_toArray, words, List.getElem?_map, hall, List.getD_eq_getElem?_getD, List.getElem?_eq_getElem (by omega)]; rfl
  have HP2 := Lib.hid hp2; have HB2 := Lib.hid hB2; have HR2 := Lib.hid hr2
  obtain ⟨V1, hV1⟩ : ∃ V1, V1 = (words G).toArray := ⟨_, rfl⟩
  rw [← hall]
  rw [← hV1] at hW2 ⊢
  clear hg2 hp2 hB2 hV1 hr2 hall
  refine (callsIn_wide (n := 5)).1 ?_
  refine callsIn_of_wp Tryz.func57 rfl trivial ?_ rfl
  simp only [Tryz.ntmps57, List.size_toArray, List.length_cons, List.length_nil, Nat.reduceAdd, Nat.reduceSub, Array.replicate_succ, Array.replicate_zero, List.push_toArray, List.append_toArray, List.nil_append, List.cons_append]
  unfold zeroPlanX at hW2
  gi_wp2
  rw [← hW2]
  clear hW2
  gi_loopw [4, 5] (fun _ s5 wr => ∃ k : Nat, k ≤ 20 ∧ s5 = .int .i64 k ∧ wr.heap[w.heap.size + 1 + 1]? = some (.cells (words (plL all k)).toArray 76 (0, 0)) ∧ W2.grownBy wr (some (w.heap.size + 1 + 1))) (fun _ s5 _ => 20 - (intOf s5).toNat)
  case atStart => exact ⟨0, by omega, rfl, HP2.out, grown_refl _ _⟩
  case round =>
    obtain ⟨k, hk, rfl, hh, hg⟩ := hrel
    by_cases hlt : k < 20
    · have k0 : (0 : Int) ≤ (k : Int) := by omega
      have k20 : (k : Int) < 20 := by omega
      have c1 : wr.cell? ⟨w.heap.size, 0, none⟩ = some (.int .u64 (all : Int)) := hg.cell c0 (by simp; omega)
      have c2 : ∃ v, wr.cell? ⟨w.heap.size + 1 + 1, k, none⟩ = some (.int .u64 v) := by
        refine ⟨((plL all k).getD k 0 : Nat), ?_⟩
        rw [cell_of_row _ _ _ _ _ _ hh, List.getElem?_toArray, words, List.getElem?_map, List.getD_eq_getElem?_getD, List.getElem?_eq_getElem (by rw [plL_len hk]; omega)]; rfl
      obtain ⟨v, c2⟩ := c2
      have f2 : wr.frozen? ⟨w.heap.size + 1 + 1, k, none⟩ = false := frozen_of_row _ _ _ _ _ hh
      have HH := Lib.hid hh; have HG := Lib.hid hg
      clear hh hg
      gi_wp2
      go_roundw
      case rel => exact ⟨k + 1, by omega, by go_num, by rw [heap_set _ HH.out, ← plL_set hlt]; simp [words, List.map_set], HG.out.trans (grown_set _ _ _ _)⟩
      case measure => simp [intOf]; omega
    · obtain rfl : k = 20 := by omega
      have hld := plan_load hh (plL_len hk)
      have hr3 := (hg.block (w.heap.size + 1) (by omega) (by simp)).trans HR2.out
      have hst := plan_store (P := plL all 20) hr3 (by rw [zero_plan]; simp [words]) (plL_len hk)
      have hh2 := heap_setRow (c' := (words (plL all 20)).toArray) hr3
      have hg2 := grown_setRow wr (w.heap.size + 1) (words (plL all 20)).toArray
      have hb4 : Below w.heap.size w (wr.setRow (w.heap.size + 1) (words (plL all 20)).toArray) := (HB2.out.grown hg HB2.out.size (fun q e => by cases e; omega)).grown hg2 (Nat.le_trans HB2.out.size hg.size) (fun q e => by cases e; omega)
      generalize wr.setRow (w.heap.size + 1) (words (plL all 20)).toArray = W4 at hst hh2 hg2 hb4
      have HH := Lib.hid hh2
      clear hh2 hr3 hh hg hg2
      rw [plL_full] at hld hst HH
      gi_wp2_with (first | refine wpIn_load_run 76 _ _ _ rfl rfl hld ?_ | refine wpIn_store_run 76 _ _ _ _ rfl rfl rfl hst ?_)
      refine ⟨rfl, _, results_cell_row rfl _ _ _ _ (words (List.replicate 20 all)).toArray _ _ rfl HH.out rfl rfl (by rw [info_plan]; simp [words]), rfl, hb4⟩
set_option maxRecDepth 100000 in
set_option maxHeartbeats 2000000 in
theorem countTours_any (G : List Nat) (m : Nat) (w : World) (hG : G.length = 65) (hGb : ∀ x ∈ G, x < 18446744073709551616) (hpop : popN 64 (G.getD 0 0) = m + 1) (hm : m < 20) (hT : Tab64 w) (hgbT : 0 < w.heap.size) :
    Calls Tryz.prog 39 #[.agg (words G).toArray] w fun e w' => ∃ gb pb lb kb cb B, e = .returned (cntV gb pb lb kb cb) ∧ CntAt w' gb pb lb kb cb B G (List.replicate 20 (G.getD 0 0)) m 0 ∧ Below w.heap.size w w' ∧ w.heap.size ≤ B := by
  have HT := Lib.hid hT; have HPOP := Lib.hid hpop; have HGB := Lib.hid hGb
  obtain ⟨W2, hW2⟩ : ∃ W2, W2 = w.alloc (.cells (words G).toArray 58) := ⟨_, rfl⟩
  have hB2 : Below w.heap.size w W2 := by rw [hW2]; exact below_new (Below.refl _ _) _
  have HH := Lib.hid (show W2.heap[w.heap.size]? = some (.cells (words G).toArray 58 (0, 0)) by rw [hW2]; exact World.alloc_heap_new _ _)
  have hlt : w.heap.size < W2.heap.size := lt_of_at HH.out
  have B := Lib.hid hB2
  have HOP := Lib.hid (fun V => openPlan_any G V hG)
  have HCB := Lib.hid (fun (V : World) (h1 : Tab64 V) (h2 : 0 < V.heap.size) => countBy_any G (List.replicate 20 (G.getD 0 0)) m V hG HGB.out HPOP.out hm h1 h2)
  obtain ⟨PP, hPP⟩ : ∃ PP, PP = List.replicate 20 (G.getD 0 0) := ⟨_, rfl⟩
  rw [← hPP] at HOP HCB ⊢
  clear hT hpop hGb hB2 hPP
  go_enter Tryz.func39, Tryz.ntmps39
  go_upto_region 1 with fail
  rw [← hW2]
  clear hW2
  refine wp_region_held_drew (S := fun w' => w'.heap[w.heap.size]? = some (.cells (words G).toArray 58 (0, 0))) (by kernel_rfl) ?_ (fun hHeld => ?_)
  · exact HH.out
  refine wpAnyH_take (i := 0) (oi := ⟨_, _, _, _, _, _⟩) (v := .agg (words G).toArray) rfl (by kernel_rfl) (by kernel_rfl) (by kernel_rfl) (fun _ _ _ h => h) (yields_load _ _ _ rfl (by kernel_rfl) rfl (fun w' h => load_groundW hG h)) (by assumption) ?_
  (try simp only [Act.put, List.setIfInBounds_toArray, List.set_cons_zero, List.set_cons_succ])
  refine wpAnyH_take (i := 1) (oi := ⟨_, _, _, _, _, _⟩) (v := .agg (words G).toArray) rfl (by kernel_rfl) (by kernel_rfl) (by kernel_rfl) (fun _ _ _ h => h) (yields_load _ _ _ rfl (by kernel_rfl) rfl (fun w' h => load_groundW hG h)) (by assumption) ?_
  (try simp only [Act.put, List.setIfInBounds_toArray, List.set_cons_zero, List.set_cons_succ])
  refine wpAnyH_ready (rs := [2]) (by kernel_rfl) (by simp) ?_
  refine AllReadyH.cons (o := ⟨_, _, _, _, _, _⟩) rfl (fun K hK => ?_) AllReadyH.nil
  go_simp
  (go_at_call 57; refine (HOP.out _).mono ?_; rintro e wv ⟨rfl, hb⟩; (repeat (first | replace hb := below_undrew hb | replace hb := below_undrewN hb)); replace HH := Lib.hid ((hb.block _ hlt).trans HH.out); replace hlt := lt_keep hlt hb; replace B := Lib.hid (below_next B.out hb); clear hb)
  (try go_wp2_with fail)
  refine hK.out _ _ ?_ (fun hHeld => ?_)
  · (try dsimp only)
    (try dsimp only)
    exact HH.out
  clear hK K
  (try simp only [Act.put, List.setIfInBounds_toArray, List.set_cons_zero, List.set_cons_succ])
  refine wpAnyH_ready (rs := [3]) (by kernel_rfl) (by simp) ?_
  refine AllReadyH.cons (o := ⟨_, _, _, _, _, _⟩) rfl (fun K hK => ?_) AllReadyH.nil
  go_simp
  (go_at_call 56; refine (HCB.out _ (by exact HT.out.keep hgbT B.out) (by exact Nat.lt_of_lt_of_le hgbT B.out.size)).mono ?_; rintro e wx ⟨gb, pb, lb, kb, cb, Bm, rfl, hat, hb, hBm⟩; (repeat (first | replace hb := below_undrew hb | replace hb := below_undrewN hb)); have hsz := B.out.size; replace hBm : w.heap.size ≤ Bm := Nat.le_trans hsz hBm; replace HH := Lib.hid ((hb.block _ hlt).trans HH.out); replace B := Lib.hid (below_next B.out hb); have HAT := Lib.hid hat; clear hb hat)
  (try go_wp2_with fail)
  refine hK.out _ _ ?_ (fun hHeld => ?_)
  · (try dsimp only)
    (try dsimp only)
    exact HH.out
  clear hK K
  (try simp only [Act.put, List.setIfInBounds_toArray, List.set_cons_zero, List.set_cons_succ])
  refine wpAnyH_take (i := 4) (oi := ⟨_, _, _, _, _, _⟩) (v := ?_) rfl (by kernel_rfl) (by kernel_rfl) (by kernel_rfl) (fun _ _ _ h => h) (Or.inl ⟨by rfl, ?_⟩) (by assumption) ?_
  rotate_left
  · intro w hSw
    (try dsimp only at hSw)
    go_simp
    (try with_reducible rfl)
  (try simp only [Act.put, List.setIfInBounds_toArray, List.set_cons_zero, List.set_cons_succ])
  refine wpAnyH_done (by kernel_rfl) ?_ _
  clear hHeld
  go_simp
  go_wp2_with fail
  go_ret
  exact ⟨gb, pb, lb, kb, cb, Bm, rfl, HAT.out, B.out, hBm⟩
end Go.Proofs.YtnmmgalidkambaaGreatDoor

namespace Go.Proofs.YtnmmgalidkambaaGreatDoor
open Go.RowKit

theorem two_N {W H a b : Int} {xs : List Int} (h : (goodB W H xs && leaperB a b) = true) : 1 ≤ W * H ∧ W * H ≤ 64 := by
  simp only [Bool.and_eq_true] at h
  obtain ⟨hW, hH, _, _⟩ := goodB_iff.1 h.1
  exact cells_le hW hH
theorem two_g {W H a b : Int} {xs : List Int} (h : (goodB W H xs && leaperB a b) = true) : goodB W H xs = true := by simp only [Bool.and_eq_true] at h; exact h.1
theorem two_l {W H a b : Int} {xs : List Int} (h : (goodB W H xs && leaperB a b) = true) : leaperB a b = true := by simp only [Bool.and_eq_true] at h; exact h.2
def okFrom (W H : Int) (xs : List Int) (a b q : Int) : Bool := leaperB a b && hasV W H xs q
def leapsFromV (W H : Int) (xs : List Int) (a b q : Int) : List Int := if okFrom W H xs a b q then leapsL W H xs a b q else []
def okTwo (W H : Int) (xs : List Int) (a b : Int) : Bool := leaperB a b && goodB W H xs
def degreesV (W H : Int) (xs : List Int) (a b : Int) : List Int := if okTwo W H xs a b then degL W H xs a b else []

end Go.Proofs.YtnmmgalidkambaaGreatDoor

namespace Go.Proofs.YtnmmgalidkambaaGreatDoor
open Go.RowKit

end Go.Proofs.YtnmmgalidkambaaGreatDoor

namespace Go.Proofs.YtnmmgalidkambaaGreatDoor
open Go.RowKit

theorem allW_has {W H a b : Int} {xs : List Int} : ∀ {k : Nat} {path t : List Int}, (∀ x ∈ path, hasB W H xs x = true) → t ∈ allW (leapsL W H xs a b) k path → ∀ x ∈ t, hasB W H xs x = true
  | 0, path, t, h, ht => by rw [allW, List.mem_singleton] at ht; subst ht; exact h
  | k + 1, path, t, h, ht => by
    rw [allW_succ, List.mem_flatMap] at ht
    obtain ⟨y, hy, ht⟩ := ht
    refine allW_has (fun x hx => ?_) ht
    rcases List.mem_append.1 hx with h1 | h1
    · exact h x h1
    · rw [List.mem_singleton.1 h1]; rw [← onL_eq] at hy; exact (onL_mem.1 hy).1
theorem allS_bit {W H : Int} {xs : List Int} {y : Int} (h : hasB W H xs y = true) : (allS W H xs).testBit y.toNat = true := by
  rw [allS, setBits_test _ _ _ rfl, List.mem_map]; exact ⟨y, cellsL_mem.2 h, rfl⟩
theorem allS_pop {W H : Int} {xs : List Int} (hN : 1 ≤ W * H ∧ W * H ≤ 64) : popN 64 (allS W H xs) = (cellsL W H xs).length := by
  have hc : ∀ x ∈ cellsL W H xs, 0 ≤ x ∧ x < 64 := fun x hx => cell_64 hN (cellsL_mem.1 hx)
  have h := (popN_set _ ((cellsL W H xs).map Int.toNat) rfl (fun c hc' => by obtain ⟨y, hy, rfl⟩ := List.mem_map.1 hc'; have := hc y hy; omega)).2.2 (by
    rw [List.Nodup, List.pairwise_map]
    refine ((cellsL_rise W H xs).imp_of_mem ?_)
    intro u v hu hv huv
    have h1 := hc u hu; have h2 := hc v hv
    omega)
  rw [List.length_map] at h
  exact h
/-- All tours from a cell. -/
def tourL (W H : Int) (xs : List Int) (a b q : Int) : List (List Int) := allW (leapsL W H xs a b) ((cellsL W H xs).length - 1) [q]
theorem okT_open {W H a b q : Int} {xs : List Int} (hq : hasB W H xs q = true) (hm : (cellsL W H xs).length ≤ 20) {t : List Int} (ht : t ∈ tourL W H xs a b q) : okT (fun j => (List.replicate 20 (allS W H xs)).getD j 0) 0 t = true := by
  have hh := allW_has (fun x hx => by rw [List.mem_singleton.1 hx]; exact hq) ht
  obtain ⟨s, rfl, hs⟩ := allW_form ht
  have hc : 0 < (cellsL W H xs).length := List.length_pos_of_mem (cellsL_mem.2 hq)
  rw [okT, List.all_eq_true]
  intro j hj
  rw [List.mem_range] at hj
  have hl : ([q] ++ s).length = (cellsL W H xs).length := by rw [List.length_append, hs]; simp; omega
  rw [Nat.sub_zero, hl] at hj
  rw [Nat.zero_add, show (List.replicate 20 (allS W H xs)).getD j 0 = allS W H xs by rw [List.getD_eq_getElem?_getD, List.getElem?_replicate, if_pos (by omega)]; rfl]
  refine allS_bit (hh _ ?_)
  rw [List.getD_eq_getElem?_getD, List.getElem?_eq_getElem (by omega)]
  exact List.getElem_mem _
theorem open_count {W H a b : Int} {xs : List Int} (hg : goodB W H xs = true) (hm : (cellsL W H xs).length ≤ 20) {s : Nat} (hq : hasB W H xs (s : Int) = true) {m : Nat} (hpm : (cellsL W H xs).length = m + 1) :
    cntF (glG W H xs a b) (List.replicate 20 (allS W H xs)) m m s (clr (allS W H xs) s) = (tourL W H xs a b (s : Int)).length := by
  obtain ⟨hW, hH, _, _⟩ := goodB_iff.1 hg
  have hN := cells_le hW hH
  have h := cnt_all (W := W) (H := H) (xs := xs) (a := a) (b := b) (fun c => (glG W H xs a b).getD (1 + c) 0) (fun j => (List.replicate 20 (allS W H xs)).getD j 0) m hg hN
    (fun y hy => by have h6 := cell_64 hN hy; exact glG_at h6.1 h6.2 (cellsL_mem.2 hy)) m [(s : Int)] (clr (allS W H xs) s) (by have := rest_start hN hq; rwa [Int.toNat_natCast] at this) (by simp) (by simp; omega) (by exact hq)
  rw [show endOf [(s : Int)] = (s : Int) from rfl, Int.toNat_natCast] at h
  rw [cntF, h, show ([(s : Int)] : List Int).length - 1 = 0 from rfl, tourL, hpm, Nat.add_sub_cancel]
  rw [List.filter_eq_self.2 (fun t ht => okT_open (b := b) (a := a) hq hm (by rw [tourL, hpm, Nat.add_sub_cancel]; exact ht))]
def okTour (W H : Int) (xs : List Int) (a b : Int) : Bool := okTwo W H xs a b && decide ((cellsL W H xs).length ≤ 20)
def okTourF (W H : Int) (xs : List Int) (a b q : Int) : Bool := okTour W H xs a b && hasB W H xs q
def ctFromV (W H : Int) (xs : List Int) (a b q : Int) : Int := if okTourF W H xs a b q = true then ((tourL W H xs a b q).length : Int) else 0
def ctV (W H : Int) (xs : List Int) (a b : Int) : Int := if okTour W H xs a b = true then ((((cellsL W H xs).map fun q => (tourL W H xs a b q).length).sum : Nat) : Int) else 0
end Go.Proofs.YtnmmgalidkambaaGreatDoor

namespace Go.Proofs.YtnmmgalidkambaaGreatDoor
open Go.RowKit

theorem okTour_parts {W H a b : Int} {xs : List Int} (h : okTour W H xs a b = true) : goodB W H xs = true ∧ leaperB a b = true ∧ (cellsL W H xs).length ≤ 20 := by
  simp only [okTour, okTwo, Bool.and_eq_true, decide_eq_true_eq] at h
  exact ⟨h.1.2, h.1.1, h.2⟩

set_option maxRecDepth 100000 in
set_option maxHeartbeats 1000000 in
theorem toFew_any (W H : Int) (A : Option Addr) (n c : Nat) (xs : List Int) (a b : Int) (w : World) (ha : Rd w A n xs) :
    Calls Tryz.prog 33 #[brd W H A n c, lpr a b] w fun e w' => e = .returned (.bool (okTour W H xs a b)) ∧ Below w.heap.size w w' := by
  obtain ⟨W2, hW2⟩ : ∃ W2, W2 = (w.alloc (.cells #[.int .i64 W, .int .i64 H, .slice A n c] 30)).alloc (.cells #[.int .i64 a, .int .i64 b] 32) := ⟨_, rfl⟩
  have B := Lib.hid (show Below w.heap.size w W2 by rw [hW2]; exact below_new (below_new (Below.refl _ _) _) _)
  have HBD := Lib.hid (show W2.heap[w.heap.size]? = some (.cells #[.int .i64 W, .int .i64 H, .slice A n c] 30 (0, 0)) by rw [hW2, Below.heap_alloc _ _ _ (by simp)]; exact World.alloc_heap_new _ _)
  have HLD := Lib.hid (show W2.heap[w.heap.size + 1]? = some (.cells #[.int .i64 a, .int .i64 b] 32 (0, 0)) by
    have h := World.alloc_heap_new (w.alloc (.cells #[.int .i64 W, .int .i64 H, .slice A n c] 30)) (.cells #[.int .i64 a, .int .i64 b] 32)
    rw [World.size_alloc] at h
    rw [hW2]; exact h)
  have R := Lib.hid (ha.keep B.out)
  clear ha
  by_cases ht : (goodB W H xs && leaperB a b) = true
  · have hg : goodB W H xs = true := by simp at ht; exact ht.1
    obtain ⟨hW, hH, _, _⟩ := goodB_iff.1 hg
    have HN := Lib.hid (cells_le hW hH)
    clear hg hW hH
    by_cases hf : (cellsL W H xs).length ≤ 20
    · have a0 : W2.cell? ⟨w.heap.size, 0, none⟩ = some (.int .i64 W) := by rw [cell_of_row _ _ _ _ _ _ HBD.out]; rfl
      have a1 : W2.cell? ⟨w.heap.size, 1, none⟩ = some (.int .i64 H) := by rw [cell_of_row _ _ _ _ _ _ HBD.out]; rfl
      have a2 : W2.cell? ⟨w.heap.size, 2, none⟩ = some (.slice A n c) := by rw [cell_of_row _ _ _ _ _ _ HBD.out]; rfl
      have l0 : W2.cell? ⟨w.heap.size + 1, 0, none⟩ = some (.int .i64 a) := by rw [cell_of_row _ _ _ _ _ _ HLD.out]; rfl
      have l1 : W2.cell? ⟨w.heap.size + 1, 1, none⟩ = some (.int .i64 b) := by rw [cell_of_row _ _ _ _ _ _ HLD.out]; rfl
      go_enter Tryz.func33, Tryz.ntmps33
      go_wp2_with fail
      rw [← hW2]
      clear hW2
      clear a0 a1 a2
      clear l0 l1
      refine (boTwo_any _ _ _ _ _ _ _ _ _ R.out).mono ?_
      rw [ht]
      rintro e wv ⟨rfl, hb⟩
      replace HBD := Lib.hid ((hb.block _ (lt_of_at9 HBD.out)).trans HBD.out)
      replace HLD := Lib.hid ((hb.block _ (lt_of_at9 HLD.out)).trans HLD.out)
      replace R := Lib.hid (R.out.keep hb)
      replace B := Lib.hid (below_next B.out hb)
      clear hb
      have a0 : wv.cell? ⟨w.heap.size, 0, none⟩ = some (.int .i64 W) := by rw [cell_of_row _ _ _ _ _ _ HBD.out]; rfl
      have a1 : wv.cell? ⟨w.heap.size, 1, none⟩ = some (.int .i64 H) := by rw [cell_of_row _ _ _ _ _ _ HBD.out]; rfl
      have a2 : wv.cell? ⟨w.heap.size, 2, none⟩ = some (.slice A n c) := by rw [cell_of_row _ _ _ _ _ _ HBD.out]; rfl
      go_wp2_with fail
      clear a0 a1 a2
      refine (boCells_any _ _ _ _ _ _ _ R.out HN.out).mono ?_
      rintro e wz ⟨A', M, c', rfl, own, hb⟩
      have hM2 :  (M : Int) ≤ 20 := by have := own.len; omega
      clear own
      replace HBD := Lib.hid ((hb.block _ (lt_of_at9 HBD.out)).trans HBD.out)
      replace HLD := Lib.hid ((hb.block _ (lt_of_at9 HLD.out)).trans HLD.out)
      replace R := Lib.hid (R.out.keep hb)
      replace B := Lib.hid (below_next B.out hb)
      clear hb
      go_wp2
      go_ret
      exact ⟨ret_bool (by rw [okTour, okTwo, Bool.and_comm (leaperB a b), ht, show decide ((cellsL W H xs).length ≤ 20) = true by simpa using hf]; simp; try omega), B.out⟩
    · have a0 : W2.cell? ⟨w.heap.size, 0, none⟩ = some (.int .i64 W) := by rw [cell_of_row _ _ _ _ _ _ HBD.out]; rfl
      have a1 : W2.cell? ⟨w.heap.size, 1, none⟩ = some (.int .i64 H) := by rw [cell_of_row _ _ _ _ _ _ HBD.out]; rfl
      have a2 : W2.cell? ⟨w.heap.size, 2, none⟩ = some (.slice A n c) := by rw [cell_of_row _ _ _ _ _ _ HBD.out]; rfl
      have l0 : W2.cell? ⟨w.heap.size + 1, 0, none⟩ = some (.int .i64 a) := by rw [cell_of_row _ _ _ _ _ _ HLD.out]; rfl
      have l1 : W2.cell? ⟨w.heap.size + 1, 1, none⟩ = some (.int .i64 b) := by rw [cell_of_row _ _ _ _ _ _ HLD.out]; rfl
      go_enter Tryz.func33, Tryz.ntmps33
      go_wp2_with fail
      rw [← hW2]
      clear hW2
      clear a0 a1 a2
      clear l0 l1
      refine (boTwo_any _ _ _ _ _ _ _ _ _ R.out).mono ?_
      rw [ht]
      rintro e wv ⟨rfl, hb⟩
      replace HBD := Lib.hid ((hb.block _ (lt_of_at9 HBD.out)).trans HBD.out)
      replace HLD := Lib.hid ((hb.block _ (lt_of_at9 HLD.out)).trans HLD.out)
      replace R := Lib.hid (R.out.keep hb)
      replace B := Lib.hid (below_next B.out hb)
      clear hb
      have a0 : wv.cell? ⟨w.heap.size, 0, none⟩ = some (.int .i64 W) := by rw [cell_of_row _ _ _ _ _ _ HBD.out]; rfl
      have a1 : wv.cell? ⟨w.heap.size, 1, none⟩ = some (.int .i64 H) := by rw [cell_of_row _ _ _ _ _ _ HBD.out]; rfl
      have a2 : wv.cell? ⟨w.heap.size, 2, none⟩ = some (.slice A n c) := by rw [cell_of_row _ _ _ _ _ _ HBD.out]; rfl
      go_wp2_with fail
      clear a0 a1 a2
      refine (boCells_any _ _ _ _ _ _ _ R.out HN.out).mono ?_
      rintro e wz ⟨A', M, c', rfl, own, hb⟩
      have hM2 : ¬ (M : Int) ≤ 20 := by have := own.len; omega
      clear own
      replace HBD := Lib.hid ((hb.block _ (lt_of_at9 HBD.out)).trans HBD.out)
      replace HLD := Lib.hid ((hb.block _ (lt_of_at9 HLD.out)).trans HLD.out)
      replace R := Lib.hid (R.out.keep hb)
      replace B := Lib.hid (below_next B.out hb)
      clear hb
      go_wp2
      go_ret
      exact ⟨ret_bool (by rw [okTour, okTwo, Bool.and_comm (leaperB a b), ht, show decide ((cellsL W H xs).length ≤ 20) = false by simpa using hf]; simp; try omega), B.out⟩
  · have ht' : (goodB W H xs && leaperB a b) = false := by simpa using ht
    have a0 : W2.cell? ⟨w.heap.size, 0, none⟩ = some (.int .i64 W) := by rw [cell_of_row _ _ _ _ _ _ HBD.out]; rfl
    have a1 : W2.cell? ⟨w.heap.size, 1, none⟩ = some (.int .i64 H) := by rw [cell_of_row _ _ _ _ _ _ HBD.out]; rfl
    have a2 : W2.cell? ⟨w.heap.size, 2, none⟩ = some (.slice A n c) := by rw [cell_of_row _ _ _ _ _ _ HBD.out]; rfl
    have l0 : W2.cell? ⟨w.heap.size + 1, 0, none⟩ = some (.int .i64 a) := by rw [cell_of_row _ _ _ _ _ _ HLD.out]; rfl
    have l1 : W2.cell? ⟨w.heap.size + 1, 1, none⟩ = some (.int .i64 b) := by rw [cell_of_row _ _ _ _ _ _ HLD.out]; rfl
    go_enter Tryz.func33, Tryz.ntmps33
    go_wp2_with fail
    rw [← hW2]
    clear hW2
    clear a0 a1 a2
    clear l0 l1
    refine (boTwo_any _ _ _ _ _ _ _ _ _ R.out).mono ?_
    rw [ht']
    rintro e wv ⟨rfl, hb⟩
    replace HBD := Lib.hid ((hb.block _ (lt_of_at9 HBD.out)).trans HBD.out)
    replace HLD := Lib.hid ((hb.block _ (lt_of_at9 HLD.out)).trans HLD.out)
    replace R := Lib.hid (R.out.keep hb)
    replace B := Lib.hid (below_next B.out hb)
    clear hb
    go_wp2
    go_ret
    exact ⟨ret_bool (by rw [okTour, okTwo, Bool.and_comm (leaperB a b), ht']; rfl), B.out⟩

set_option maxRecDepth 100000 in
set_option maxHeartbeats 1000000 in
theorem spec_CountToursFrom (W H : Int) (A : Option Addr) (n c : Nat) (xs : List Int) (a b q : Int) (w : World) (ha : Rd w A n xs) :
    Calls Tryz.prog 22 #[brd W H A n c, lpr a b, .int .i64 q] w fun e w' => e = .returned (.tuple #[.int .i64 (ctFromV W H xs a b q), .bool (okTourF W H xs a b q)]) ∧ Below w.heap.size w w' := by
  obtain ⟨W2, hW2⟩ : ∃ W2, W2 = (w.alloc (.cells #[.int .i64 W, .int .i64 H, .slice A n c] 30)).alloc (.cells #[.int .i64 a, .int .i64 b] 32) := ⟨_, rfl⟩
  have B := Lib.hid (show Below w.heap.size w W2 by rw [hW2]; exact below_new (below_new (Below.refl _ _) _) _)
  have HBD := Lib.hid (show W2.heap[w.heap.size]? = some (.cells #[.int .i64 W, .int .i64 H, .slice A n c] 30 (0, 0)) by rw [hW2, Below.heap_alloc _ _ _ (by simp)]; exact World.alloc_heap_new _ _)
  have HLD := Lib.hid (show W2.heap[w.heap.size + 1]? = some (.cells #[.int .i64 a, .int .i64 b] 32 (0, 0)) by
    have h := World.alloc_heap_new (w.alloc (.cells #[.int .i64 W, .int .i64 H, .slice A n c] 30)) (.cells #[.int .i64 a, .int .i64 b] 32)
    rw [World.size_alloc] at h
    rw [hW2]; exact h)
  have R := Lib.hid (ha.keep B.out)
  clear ha
  by_cases ht : okTour W H xs a b = true
  · obtain ⟨hg, hl, hm20⟩ := okTour_parts ht
    have HG := Lib.hid hg; have HM20 := Lib.hid hm20
    obtain ⟨hW, hH, _, _⟩ := goodB_iff.1 hg
    have HN := Lib.hid (cells_le hW hH)
    clear hg hl hW hH hm20
    by_cases hq : hasB W H xs q = true
    · obtain ⟨x, rfl⟩ : ∃ x : Nat, q = (x : Int) := ⟨q.toNat, by have := (hasB_iff.1 hq).1; omega⟩
      have hlen : 0 < (cellsL W H xs).length := List.length_pos_of_mem (cellsL_mem.2 hq)
      obtain ⟨m, hm⟩ : ∃ m, (cellsL W H xs).length = m + 1 := ⟨(cellsL W H xs).length - 1, by omega⟩
      have HM := Lib.hid hm; clear hlen hm
      have a0 : W2.cell? ⟨w.heap.size, 0, none⟩ = some (.int .i64 W) := by rw [cell_of_row _ _ _ _ _ _ HBD.out]; rfl
      have a1 : W2.cell? ⟨w.heap.size, 1, none⟩ = some (.int .i64 H) := by rw [cell_of_row _ _ _ _ _ _ HBD.out]; rfl
      have a2 : W2.cell? ⟨w.heap.size, 2, none⟩ = some (.slice A n c) := by rw [cell_of_row _ _ _ _ _ _ HBD.out]; rfl
      have l0 : W2.cell? ⟨w.heap.size + 1, 0, none⟩ = some (.int .i64 a) := by rw [cell_of_row _ _ _ _ _ _ HLD.out]; rfl
      have l1 : W2.cell? ⟨w.heap.size + 1, 1, none⟩ = some (.int .i64 b) := by rw [cell_of_row _ _ _ _ _ _ HLD.out]; rfl
      go_enter Tryz.func22, Tryz.ntmps22
      go_wp2_with fail
      rw [← hW2]
      clear hW2
      clear a0 a1 a2
      clear l0 l1
      refine (toFew_any _ _ _ _ _ _ _ _ _ R.out).mono ?_
      rw [ht]
      rintro e wv ⟨rfl, hb⟩
      replace HBD := Lib.hid ((hb.block _ (lt_of_at9 HBD.out)).trans HBD.out)
      replace HLD := Lib.hid ((hb.block _ (lt_of_at9 HLD.out)).trans HLD.out)
      replace R := Lib.hid (R.out.keep hb)
      replace B := Lib.hid (below_next B.out hb)
      clear hb
      have a0 : wv.cell? ⟨w.heap.size, 0, none⟩ = some (.int .i64 W) := by rw [cell_of_row _ _ _ _ _ _ HBD.out]; rfl
      have a1 : wv.cell? ⟨w.heap.size, 1, none⟩ = some (.int .i64 H) := by rw [cell_of_row _ _ _ _ _ _ HBD.out]; rfl
      have a2 : wv.cell? ⟨w.heap.size, 2, none⟩ = some (.slice A n c) := by rw [cell_of_row _ _ _ _ _ _ HBD.out]; rfl
      go_wp2_with fail
      clear a0 a1 a2
      refine (boHas_any _ _ _ _ _ _ _ _ R.out HN.out).mono ?_
      rw [hq]
      rintro e wz ⟨rfl, hb⟩
      replace HBD := Lib.hid ((hb.block _ (lt_of_at9 HBD.out)).trans HBD.out)
      replace HLD := Lib.hid ((hb.block _ (lt_of_at9 HLD.out)).trans HLD.out)
      replace R := Lib.hid (R.out.keep hb)
      replace B := Lib.hid (below_next B.out hb)
      clear hb
      have a0 : wz.cell? ⟨w.heap.size, 0, none⟩ = some (.int .i64 W) := by rw [cell_of_row _ _ _ _ _ _ HBD.out]; rfl
      have a1 : wz.cell? ⟨w.heap.size, 1, none⟩ = some (.int .i64 H) := by rw [cell_of_row _ _ _ _ _ _ HBD.out]; rfl
      have a2 : wz.cell? ⟨w.heap.size, 2, none⟩ = some (.slice A n c) := by rw [cell_of_row _ _ _ _ _ _ HBD.out]; rfl
      have l0 : wz.cell? ⟨w.heap.size + 1, 0, none⟩ = some (.int .i64 a) := by rw [cell_of_row _ _ _ _ _ _ HLD.out]; rfl
      have l1 : wz.cell? ⟨w.heap.size + 1, 1, none⟩ = some (.int .i64 b) := by rw [cell_of_row _ _ _ _ _ _ HLD.out]; rfl
      go_wp2_with fail
      clear a0 a1 a2
      clear l0 l1
      refine (toNew_any W H A n c xs a b x false m _ R.out HG.out hq HM.out (by have := HM20.out; have := HM.out; omega)).mono ?_
      rintro e wf ⟨tb, lb, vb, N, LB, A', c', F, nf, cf, rfl, hs, _, _, hb⟩
      have hcnt : ((allW (leapsL W H xs a b) m [(x : Int)]).foldl (scanC false) (0, [])).1 = (tourL W H xs a b (x : Int)).length := by rw [scan_count, tourL, HM.out]; simp
      rw [hcnt] at hs
      have t6 : wf.cell? ⟨tb, 6, none⟩ = some (.int .i64 ((tourL W H xs a b (x : Int)).length : Int)) := by rw [cell_of_row _ _ _ _ _ _ hs.st]; rfl
      clear hs hcnt
      replace HBD := Lib.hid ((hb.block _ (lt_of_at9 HBD.out)).trans HBD.out)
      replace HLD := Lib.hid ((hb.block _ (lt_of_at9 HLD.out)).trans HLD.out)
      replace R := Lib.hid (R.out.keep hb)
      replace B := Lib.hid (below_next B.out hb)
      clear hb
      go_wp2
      go_ret2
      exact ⟨by rw [ctFromV, okTourF, ht, hq]; rfl, B.out⟩
    · have hq' : hasB W H xs q = false := by simpa using hq
      have a0 : W2.cell? ⟨w.heap.size, 0, none⟩ = some (.int .i64 W) := by rw [cell_of_row _ _ _ _ _ _ HBD.out]; rfl
      have a1 : W2.cell? ⟨w.heap.size, 1, none⟩ = some (.int .i64 H) := by rw [cell_of_row _ _ _ _ _ _ HBD.out]; rfl
      have a2 : W2.cell? ⟨w.heap.size, 2, none⟩ = some (.slice A n c) := by rw [cell_of_row _ _ _ _ _ _ HBD.out]; rfl
      have l0 : W2.cell? ⟨w.heap.size + 1, 0, none⟩ = some (.int .i64 a) := by rw [cell_of_row _ _ _ _ _ _ HLD.out]; rfl
      have l1 : W2.cell? ⟨w.heap.size + 1, 1, none⟩ = some (.int .i64 b) := by rw [cell_of_row _ _ _ _ _ _ HLD.out]; rfl
      go_enter Tryz.func22, Tryz.ntmps22
      go_wp2_with fail
      rw [← hW2]
      clear hW2
      clear a0 a1 a2
      clear l0 l1
      refine (toFew_any _ _ _ _ _ _ _ _ _ R.out).mono ?_
      rw [ht]
      rintro e wv ⟨rfl, hb⟩
      replace HBD := Lib.hid ((hb.block _ (lt_of_at9 HBD.out)).trans HBD.out)
      replace HLD := Lib.hid ((hb.block _ (lt_of_at9 HLD.out)).trans HLD.out)
      replace R := Lib.hid (R.out.keep hb)
      replace B := Lib.hid (below_next B.out hb)
      clear hb
      have a0 : wv.cell? ⟨w.heap.size, 0, none⟩ = some (.int .i64 W) := by rw [cell_of_row _ _ _ _ _ _ HBD.out]; rfl
      have a1 : wv.cell? ⟨w.heap.size, 1, none⟩ = some (.int .i64 H) := by rw [cell_of_row _ _ _ _ _ _ HBD.out]; rfl
      have a2 : wv.cell? ⟨w.heap.size, 2, none⟩ = some (.slice A n c) := by rw [cell_of_row _ _ _ _ _ _ HBD.out]; rfl
      go_wp2_with fail
      clear a0 a1 a2
      refine (boHas_any _ _ _ _ _ _ _ _ R.out HN.out).mono ?_
      rw [hq']
      rintro e wz ⟨rfl, hb⟩
      replace HBD := Lib.hid ((hb.block _ (lt_of_at9 HBD.out)).trans HBD.out)
      replace HLD := Lib.hid ((hb.block _ (lt_of_at9 HLD.out)).trans HLD.out)
      replace R := Lib.hid (R.out.keep hb)
      replace B := Lib.hid (below_next B.out hb)
      clear hb
      go_wp2
      go_ret2
      exact ⟨by rw [ctFromV, okTourF, ht, hq']; rfl, B.out⟩
  · have ht' : okTour W H xs a b = false := by simpa using ht
    have a0 : W2.cell? ⟨w.heap.size, 0, none⟩ = some (.int .i64 W) := by rw [cell_of_row _ _ _ _ _ _ HBD.out]; rfl
    have a1 : W2.cell? ⟨w.heap.size, 1, none⟩ = some (.int .i64 H) := by rw [cell_of_row _ _ _ _ _ _ HBD.out]; rfl
    have a2 : W2.cell? ⟨w.heap.size, 2, none⟩ = some (.slice A n c) := by rw [cell_of_row _ _ _ _ _ _ HBD.out]; rfl
    have l0 : W2.cell? ⟨w.heap.size + 1, 0, none⟩ = some (.int .i64 a) := by rw [cell_of_row _ _ _ _ _ _ HLD.out]; rfl
    have l1 : W2.cell? ⟨w.heap.size + 1, 1, none⟩ = some (.int .i64 b) := by rw [cell_of_row _ _ _ _ _ _ HLD.out]; rfl
    go_enter Tryz.func22, Tryz.ntmps22
    go_wp2_with fail
    rw [← hW2]
    clear hW2
    clear a0 a1 a2
    clear l0 l1
    refine (toFew_any _ _ _ _ _ _ _ _ _ R.out).mono ?_
    rw [ht']
    rintro e wv ⟨rfl, hb⟩
    replace HBD := Lib.hid ((hb.block _ (lt_of_at9 HBD.out)).trans HBD.out)
    replace HLD := Lib.hid ((hb.block _ (lt_of_at9 HLD.out)).trans HLD.out)
    replace R := Lib.hid (R.out.keep hb)
    replace B := Lib.hid (below_next B.out hb)
    clear hb
    go_wp2
    go_ret2
    exact ⟨by rw [ctFromV, okTourF, ht']; rfl, B.out⟩
end Go.Proofs.YtnmmgalidkambaaGreatDoor

namespace Go.Proofs.YtnmmgalidkambaaGreatDoor
open Go.RowKit

def onB (W H : Int) (xs : List Int) (a b : Int) (ps : List Int) : Bool := okTwo W H xs a b && ps.all (hasB W H xs)

theorem onB_onK (W H : Int) (xs : List Int) (a b : Int) (ps : List Int) : onB W H xs a b ps = onK W H xs a b ps := by
  rw [onB, onK, okTwo, twoV, Bool.and_comm (leaperB a b)]
theorem isLeaperOn_any (W H : Int) (A : Option Addr) (n c : Nat) (xs : List Int) (a b : Int) (A2 : Option Addr) (m c2 : Nat) (ps : List Int) (w : World) (ha : Rd w A n xs) (hp : Rd w A2 m ps) :
    Calls Tryz.prog 49 #[brd W H A n c, lpr a b, .slice A2 m c2] w fun e w' => e = .returned (.bool (onB W H xs a b ps)) ∧ Below w.heap.size w w' := by
  rw [onB_onK]; exact isLeaperOnK_any W H A n c xs a b A2 m c2 ps w ha hp

end Go.Proofs.YtnmmgalidkambaaGreatDoor

namespace Go.Proofs.YtnmmgalidkambaaGreatDoor
open Go.RowKit

def soB (W H : Int) (xs : List Int) (a b : Int) (ps : List Int) : Bool := okTour W H xs a b && ps.all (hasB W H xs)
theorem soB_on (W H : Int) (xs : List Int) (a b : Int) (ps : List Int) : soB W H xs a b ps = (onB W H xs a b ps && decide ((cellsL W H xs).length ≤ 20)) := by
  rw [soB, okTour, onB, Bool.and_assoc, Bool.and_assoc, Bool.and_comm (decide _)]
theorem headT {w : World} {g : Nat} {G : List Nat} {v : Value} (h : w.heap[g]? = some (.cells (words G).toArray 58 (0, 0))) (hv : (words G)[0]? = some v) : w.cell? ⟨g, 0, none⟩ = some v := by rw [cell_of_row _ _ _ _ _ _ h, List.getElem?_toArray, hv]
theorem soB_one (W H : Int) (xs : List Int) (a b q : Int) : soB W H xs a b [q] = okTourF W H xs a b q := by simp [soB, okTourF]
theorem store_groundT {G : List Nat} (hG : G.length = 65) (w2 : World) :
    (Instr.storeAt 58 (.pointer (some ⟨w2.heap.size, 0, none⟩)) (.agg (words G).toArray)).run Tryz.prog (w2.alloc (.cells Tryz.zeroCells58 58)) = .ok () (w2.alloc (.cells (words G).toArray 58)) :=
  run_storeAt_new _ _ _ _ (by rw [info_ground]; simp [words, hG]) (by rw [zero_ground]; simp [words, hG]) (all_oneCell_toArray (words_one _))

set_option maxRecDepth 100000 in
set_option maxHeartbeats 1000000 in
theorem areToursSought_any (W H : Int) (A : Option Addr) (n c : Nat) (xs : List Int) (a b : Int) (A2 : Option Addr) (k c2 : Nat) (ps : List Int) (w : World) (ha : Rd w A n xs) (hp : Rd w A2 k ps) :
    Calls Tryz.prog 37 #[brd W H A n c, lpr a b, .slice A2 k c2] w fun e w' => e = .returned (.bool (soB W H xs a b ps)) ∧ Below w.heap.size w w' := by
  obtain ⟨W2, hW2⟩ : ∃ W2, W2 = (w.alloc (.cells #[.int .i64 W, .int .i64 H, .slice A n c] 30)).alloc (.cells #[.int .i64 a, .int .i64 b] 32) := ⟨_, rfl⟩
  have B := Lib.hid (show Below w.heap.size w W2 by rw [hW2]; exact below_new (below_new (Below.refl _ _) _) _)
  have HBD := Lib.hid (show W2.heap[w.heap.size]? = some (.cells #[.int .i64 W, .int .i64 H, .slice A n c] 30 (0, 0)) by rw [hW2, Below.heap_alloc _ _ _ (by simp)]; exact World.alloc_heap_new _ _)
  have HLD := Lib.hid (show W2.heap[w.heap.size + 1]? = some (.cells #[.int .i64 a, .int .i64 b] 32 (0, 0)) by
    have h := World.alloc_heap_new (w.alloc (.cells #[.int .i64 W, .int .i64 H, .slice A n c] 30)) (.cells #[.int .i64 a, .int .i64 b] 32)
    rw [World.size_alloc] at h
    rw [hW2]; exact h)
  have R := Lib.hid (ha.keep B.out)
  have RP := Lib.hid (hp.keep B.out)
  clear ha hp
  by_cases ht : onB W H xs a b ps = true
  · have HG := Lib.hid (show goodB W H xs = true by simp only [onB, okTwo, Bool.and_eq_true] at ht; exact ht.1.2)
    by_cases hf : (cellsL W H xs).length ≤ 20
    · have a0 : W2.cell? ⟨w.heap.size, 0, none⟩ = some (.int .i64 W) := by rw [cell_of_row _ _ _ _ _ _ HBD.out]; rfl
      have a1 : W2.cell? ⟨w.heap.size, 1, none⟩ = some (.int .i64 H) := by rw [cell_of_row _ _ _ _ _ _ HBD.out]; rfl
      have a2 : W2.cell? ⟨w.heap.size, 2, none⟩ = some (.slice A n c) := by rw [cell_of_row _ _ _ _ _ _ HBD.out]; rfl
      have l0 : W2.cell? ⟨w.heap.size + 1, 0, none⟩ = some (.int .i64 a) := by rw [cell_of_row _ _ _ _ _ _ HLD.out]; rfl
      have l1 : W2.cell? ⟨w.heap.size + 1, 1, none⟩ = some (.int .i64 b) := by rw [cell_of_row _ _ _ _ _ _ HLD.out]; rfl
      go_enter Tryz.func37, Tryz.ntmps37
      go_wp2_with fail
      rw [← hW2]
      clear hW2
      clear a0 a1 a2
      clear l0 l1
      refine (isLeaperOn_any _ _ _ _ _ _ _ _ _ _ _ _ _ R.out RP.out).mono ?_
      rw [ht]
      rintro e wv ⟨rfl, hb⟩
      replace HBD := Lib.hid ((hb.block _ (lt_of_at9 HBD.out)).trans HBD.out)
      replace HLD := Lib.hid ((hb.block _ (lt_of_at9 HLD.out)).trans HLD.out)
      replace R := Lib.hid (R.out.keep hb)
      replace B := Lib.hid (below_next B.out hb)
      clear hb
      have a0 : wv.cell? ⟨w.heap.size, 0, none⟩ = some (.int .i64 W) := by rw [cell_of_row _ _ _ _ _ _ HBD.out]; rfl
      have a1 : wv.cell? ⟨w.heap.size, 1, none⟩ = some (.int .i64 H) := by rw [cell_of_row _ _ _ _ _ _ HBD.out]; rfl
      have a2 : wv.cell? ⟨w.heap.size, 2, none⟩ = some (.slice A n c) := by rw [cell_of_row _ _ _ _ _ _ HBD.out]; rfl
      go_wp2_with fail
      clear a0 a1 a2
      refine (cellsThere_any _ _ _ _ _ _ _ R.out HG.out).mono ?_
      rintro e wz ⟨A', M, c', rfl, own, hb⟩
      have hM2 :  (M : Int) ≤ 20 := by have := own.len; omega
      clear own
      replace HBD := Lib.hid ((hb.block _ (lt_of_at9 HBD.out)).trans HBD.out)
      replace HLD := Lib.hid ((hb.block _ (lt_of_at9 HLD.out)).trans HLD.out)
      replace R := Lib.hid (R.out.keep hb)
      replace B := Lib.hid (below_next B.out hb)
      clear hb
      go_wp2
      go_ret
      exact ⟨ret_bool (by rw [soB_on, ht, show decide ((cellsL W H xs).length ≤ 20) = true by simpa using hf]; simp; try omega), B.out⟩
    · have a0 : W2.cell? ⟨w.heap.size, 0, none⟩ = some (.int .i64 W) := by rw [cell_of_row _ _ _ _ _ _ HBD.out]; rfl
      have a1 : W2.cell? ⟨w.heap.size, 1, none⟩ = some (.int .i64 H) := by rw [cell_of_row _ _ _ _ _ _ HBD.out]; rfl
      have a2 : W2.cell? ⟨w.heap.size, 2, none⟩ = some (.slice A n c) := by rw [cell_of_row _ _ _ _ _ _ HBD.out]; rfl
      have l0 : W2.cell? ⟨w.heap.size + 1, 0, none⟩ = some (.int .i64 a) := by rw [cell_of_row _ _ _ _ _ _ HLD.out]; rfl
      have l1 : W2.cell? ⟨w.heap.size + 1, 1, none⟩ = some (.int .i64 b) := by rw [cell_of_row _ _ _ _ _ _ HLD.out]; rfl
      go_enter Tryz.func37, Tryz.ntmps37
      go_wp2_with fail
      rw [← hW2]
      clear hW2
      clear a0 a1 a2
      clear l0 l1
      refine (isLeaperOn_any _ _ _ _ _ _ _ _ _ _ _ _ _ R.out RP.out).mono ?_
      rw [ht]
      rintro e wv ⟨rfl, hb⟩
      replace HBD := Lib.hid ((hb.block _ (lt_of_at9 HBD.out)).trans HBD.out)
      replace HLD := Lib.hid ((hb.block _ (lt_of_at9 HLD.out)).trans HLD.out)
      replace R := Lib.hid (R.out.keep hb)
      replace B := Lib.hid (below_next B.out hb)
      clear hb
      have a0 : wv.cell? ⟨w.heap.size, 0, none⟩ = some (.int .i64 W) := by rw [cell_of_row _ _ _ _ _ _ HBD.out]; rfl
      have a1 : wv.cell? ⟨w.heap.size, 1, none⟩ = some (.int .i64 H) := by rw [cell_of_row _ _ _ _ _ _ HBD.out]; rfl
      have a2 : wv.cell? ⟨w.heap.size, 2, none⟩ = some (.slice A n c) := by rw [cell_of_row _ _ _ _ _ _ HBD.out]; rfl
      go_wp2_with fail
      clear a0 a1 a2
      refine (cellsThere_any _ _ _ _ _ _ _ R.out HG.out).mono ?_
      rintro e wz ⟨A', M, c', rfl, own, hb⟩
      have hM2 : ¬ (M : Int) ≤ 20 := by have := own.len; omega
      clear own
      replace HBD := Lib.hid ((hb.block _ (lt_of_at9 HBD.out)).trans HBD.out)
      replace HLD := Lib.hid ((hb.block _ (lt_of_at9 HLD.out)).trans HLD.out)
      replace R := Lib.hid (R.out.keep hb)
      replace B := Lib.hid (below_next B.out hb)
      clear hb
      go_wp2
      go_ret
      exact ⟨ret_bool (by rw [soB_on, ht, show decide ((cellsL W H xs).length ≤ 20) = false by simpa using hf]; simp; try omega), B.out⟩
  · have ht' : onB W H xs a b ps = false := by simpa using ht
    have a0 : W2.cell? ⟨w.heap.size, 0, none⟩ = some (.int .i64 W) := by rw [cell_of_row _ _ _ _ _ _ HBD.out]; rfl
    have a1 : W2.cell? ⟨w.heap.size, 1, none⟩ = some (.int .i64 H) := by rw [cell_of_row _ _ _ _ _ _ HBD.out]; rfl
    have a2 : W2.cell? ⟨w.heap.size, 2, none⟩ = some (.slice A n c) := by rw [cell_of_row _ _ _ _ _ _ HBD.out]; rfl
    have l0 : W2.cell? ⟨w.heap.size + 1, 0, none⟩ = some (.int .i64 a) := by rw [cell_of_row _ _ _ _ _ _ HLD.out]; rfl
    have l1 : W2.cell? ⟨w.heap.size + 1, 1, none⟩ = some (.int .i64 b) := by rw [cell_of_row _ _ _ _ _ _ HLD.out]; rfl
    go_enter Tryz.func37, Tryz.ntmps37
    go_wp2_with fail
    rw [← hW2]
    clear hW2
    clear a0 a1 a2
    clear l0 l1
    refine (isLeaperOn_any _ _ _ _ _ _ _ _ _ _ _ _ _ R.out RP.out).mono ?_
    rw [ht']
    rintro e wv ⟨rfl, hb⟩
    replace HBD := Lib.hid ((hb.block _ (lt_of_at9 HBD.out)).trans HBD.out)
    replace HLD := Lib.hid ((hb.block _ (lt_of_at9 HLD.out)).trans HLD.out)
    replace R := Lib.hid (R.out.keep hb)
    replace B := Lib.hid (below_next B.out hb)
    clear hb
    go_wp2
    go_ret
    exact ⟨ret_bool (by rw [soB_on, ht']; rfl), B.out⟩

set_option maxRecDepth 100000 in
set_option maxHeartbeats 2000000 in
theorem impl_CountToursFrom (W H : Int) (A : Option Addr) (n c : Nat) (xs : List Int) (a b q : Int) (w : World) (ha : Rd w A n xs) (hT : Tab64 w ∧ 0 < w.heap.size) :
    Calls Tryz.prog 23 #[brd W H A n c, lpr a b, .int .i64 q] w fun e w' => e = .returned (.tuple #[.int .i64 (ctFromV W H xs a b q), .bool (okTourF W H xs a b q)]) ∧ Below w.heap.size w w' := by
  by_cases ho : okTourF W H xs a b q = true
  · have HOK := Lib.hid ho
    obtain ⟨ht, hq⟩ := (show okTour W H xs a b = true ∧ hasB W H xs q = true by simpa [okTourF] using ho)
    obtain ⟨hg, hl, hm20⟩ := okTour_parts ht
    have HG := Lib.hid hg; have HL := Lib.hid hl
    obtain ⟨hW, hH, _, _⟩ := goodB_iff.1 hg
    have HN := Lib.hid (cells_le hW hH)
    have hq6 := cell_64 HN.out hq
    obtain ⟨x, rfl⟩ : ∃ x : Nat, q = (x : Int) := ⟨q.toNat, by omega⟩
    have hlen : 0 < (cellsL W H xs).length := List.length_pos_of_mem (cellsL_mem.2 hq)
    obtain ⟨m, hm⟩ : ∃ m, (cellsL W H xs).length = m + 1 := ⟨(cellsL W H xs).length - 1, by omega⟩
    have hm19 : m < 20 := by omega
    obtain ⟨G, hGe⟩ : ∃ G, G = glG W H xs a b := ⟨_, rfl⟩
    obtain ⟨al, hal⟩ : ∃ al, al = allS W H xs := ⟨_, rfl⟩
    have hG65 : Hid (G.length = 65) := Lib.hid (by rw [hGe]; exact glG_len _ _ _ _ _)
    have hGlt : Hid (∀ x ∈ G, x < 18446744073709551616) := Lib.hid (by rw [hGe]; exact glG_lt hg)
    have hg00 : G[0]? = some al := by rw [hGe, hal, glG, gl]; rfl
    have hgd : G.getD 0 0 = al := by rw [List.getD_eq_getElem?_getD, hg00]; rfl
    have HAL := Lib.hid (hGlt.out al (List.mem_of_getElem? hg00))
    have HG0 := Lib.hid (show (words G)[0]? = some (.int .u64 (al : Int)) by rw [words, List.getElem?_map, hg00]; rfl)
    have hpa : popN 64 al = m + 1 := by rw [hal, allS_pop HN.out, hm]
    have hbit : al.testBit x = true := by have h := allS_bit hq; rwa [Int.toNat_natCast, ← hal] at h
    have hcnt : cntF G (List.replicate 20 al) m m x (clr al x) = (tourL W H xs a b (x : Int)).length := by rw [hGe, hal]; exact open_count hg hm20 hq hm
    have HCT := Lib.hid (fun (V : World) h1 h2 => countTours_any G m V hG65.out hGlt.out (by rw [hgd]; exact hpa) hm19 h1 h2)
    rw [hgd] at HCT
    have hx64 : x < 64 := by omega
    have HWO := Lib.hid (show ∀ V : World, Calls Tryz.prog 42 #[.int .u64 (al : Int), .int .i64 (x : Int)] V fun e w' => e = .returned (.int .u64 ((clr al x : Nat) : Int)) ∧ Below V.heap.size V w' from fun V => (without_any al x HAL.out hx64 V).mono (fun e w' h => ⟨h.1, by rw [h.2]; exact Below.refl _ _⟩))
    have HCC := Lib.hid (fun (gb pb lb kb cb Bm : Nat) (V : World) (h : CntAt V gb pb lb kb cb Bm G (List.replicate 20 al) m 0) => count_any gb pb lb kb cb Bm G (List.replicate 20 al) m hG65.out hGlt.out (by simp) (fun y hy => by rw [(List.mem_replicate.1 hy).2]; exact HAL.out) hm19 m x (clr al x) 0 V hx64 (clr_lt64 HAL.out) (by have := pop_clr HAL.out hbit; omega) (Nat.le_refl _) h (by have := kept_19 (show m ≤ 19 by omega); omega))
    rw [hcnt] at HCC
    have hgl9 : gl W H xs a b (cellsL W H xs) = G := hGe.symm
    have hso : soB W H xs a b [(x : Int)] = true := by rw [soB_one]; exact ho
    clear ho ht hg hl hW hH hlen hpa hcnt hgd hg00 hGe hal hm hm20 hq6 hbit hq
    have HTab := Lib.hid hT; clear hT
    obtain ⟨W3, hW3⟩ : ∃ W3, W3 = (w.alloc (.cells #[.int .i64 W, .int .i64 H, .slice A n c] 30)).alloc (.cells #[.int .i64 a, .int .i64 b] 32) := ⟨_, rfl⟩
    have hs3 : W3.heap.size = w.heap.size + 2 := by rw [hW3]; simp
    have B3 := Lib.hid (show Below w.heap.size w W3 by rw [hW3]; exact below_new (below_new (Below.refl _ _) _) _)
    have HBD3 := Lib.hid (show W3.heap[w.heap.size]? = some (.cells #[.int .i64 W, .int .i64 H, .slice A n c] 30 (0, 0)) by rw [hW3, Below.heap_alloc _ _ _ (by simp)]; exact World.alloc_heap_new _ _)
    have HLD3 := Lib.hid (show W3.heap[w.heap.size + 1]? = some (.cells #[.int .i64 a, .int .i64 b] 32 (0, 0)) by
      have h := World.alloc_heap_new (w.alloc (.cells #[.int .i64 W, .int .i64 H, .slice A n c] 30)) (.cells #[.int .i64 a, .int .i64 b] 32)
      rw [World.size_alloc] at h
      rw [hW3]; exact h)
    obtain ⟨W2, hW2⟩ : ∃ W2, W2 = W3.alloc (.cells #[.int .i64 (x : Int)] 3) := ⟨_, rfl⟩
    have hb3 : Below W3.heap.size W3 W2 := by rw [hW2]; exact below_new (Below.refl _ _) _
    have B := Lib.hid (below_next B3.out hb3)
    have HBD := Lib.hid ((hb3.block _ (lt_of_at9 HBD3.out)).trans HBD3.out)
    have HLD := Lib.hid ((hb3.block _ (lt_of_at9 HLD3.out)).trans HLD3.out)
    have HQ2 : W2.heap[w.heap.size + 1 + 1]? = some (.cells #[.int .i64 (x : Int)] 3 (0, 0)) := by
      have h := World.alloc_heap_new W3 (.cells #[.int .i64 (x : Int)] 3)
      rw [hs3] at h; rw [hW2]; exact h
    have RP := Lib.hid (show Rd W2 (some ⟨w.heap.size + 1 + 1, 0, none⟩) 1 [(x : Int)] from ⟨rfl, by omega, fun k hk => by
      obtain rfl : k = 0 := by omega
      exact ⟨_, 0, _, rfl, lt_of_at9 HQ2, rfl, by rw [cell_of_row _ _ _ _ _ _ HQ2]; rfl⟩⟩)
    have R := Lib.hid (ha.keep B.out)
    rw [hW3] at hW2
    clear ha hW3 hs3 B3 HBD3 HLD3 hb3 HQ2
    have a0 : W2.cell? ⟨w.heap.size, 0, none⟩ = some (.int .i64 W) := by rw [cell_of_row _ _ _ _ _ _ HBD.out]; rfl
    have a1 : W2.cell? ⟨w.heap.size, 1, none⟩ = some (.int .i64 H) := by rw [cell_of_row _ _ _ _ _ _ HBD.out]; rfl
    have a2 : W2.cell? ⟨w.heap.size, 2, none⟩ = some (.slice A n c) := by rw [cell_of_row _ _ _ _ _ _ HBD.out]; rfl
    have l0 : W2.cell? ⟨w.heap.size + 1, 0, none⟩ = some (.int .i64 a) := by rw [cell_of_row _ _ _ _ _ _ HLD.out]; rfl
    have l1 : W2.cell? ⟨w.heap.size + 1, 1, none⟩ = some (.int .i64 b) := by rw [cell_of_row _ _ _ _ _ _ HLD.out]; rfl
    refine (callsIn_wide (n := 9)).1 ?_
    refine callsIn_of_wp Tryz.func23 rfl trivial ?_ rfl
    simp only [Tryz.ntmps23, List.size_toArray, List.length_cons, List.length_nil, Nat.reduceAdd, Nat.reduceSub, Array.replicate_succ, Array.replicate_zero, List.push_toArray, List.append_toArray, List.nil_append, List.cons_append]
    gi_wp2
    rw [← hW2]
    clear hW2
    clear a0 a1 a2
    clear l0 l1
    refine ⟨trivial, (callsIn_wide.2 (areToursSought_any _ _ _ _ _ _ _ _ _ _ _ _ _ R.out RP.out)).mono ?_⟩
    rw [hso]
    rintro e wv ⟨rfl, hb⟩
    replace HBD := Lib.hid ((hb.block _ (lt_of_at9 HBD.out)).trans HBD.out)
    replace HLD := Lib.hid ((hb.block _ (lt_of_at9 HLD.out)).trans HLD.out)
    replace R := Lib.hid (R.out.keep hb)
    replace B := Lib.hid (below_next B.out hb)
    clear hb
    clear RP
    have a0 : wv.cell? ⟨w.heap.size, 0, none⟩ = some (.int .i64 W) := by rw [cell_of_row _ _ _ _ _ _ HBD.out]; rfl
    have a1 : wv.cell? ⟨w.heap.size, 1, none⟩ = some (.int .i64 H) := by rw [cell_of_row _ _ _ _ _ _ HBD.out]; rfl
    have a2 : wv.cell? ⟨w.heap.size, 2, none⟩ = some (.slice A n c) := by rw [cell_of_row _ _ _ _ _ _ HBD.out]; rfl
    have l0 : wv.cell? ⟨w.heap.size + 1, 0, none⟩ = some (.int .i64 a) := by rw [cell_of_row _ _ _ _ _ _ HLD.out]; rfl
    have l1 : wv.cell? ⟨w.heap.size + 1, 1, none⟩ = some (.int .i64 b) := by rw [cell_of_row _ _ _ _ _ _ HLD.out]; rfl
    gi_wp2
    refine ⟨trivial, (callsIn_wide.2 (groundOf_any W H A n c xs a b wv R.out HG.out HL.out (tab_keep HTab.out B.out).1 (tab_keep HTab.out B.out).2)).mono ?_⟩
    rintro e w2 ⟨rfl, hB2⟩
    rw [hgl9]
    clear a0 a1 a2
    clear l0 l1
    have hst := store_groundT hG65.out w2
    obtain ⟨Wa, hWa⟩ : ∃ Wa, Wa = w2.alloc (.cells (words G).toArray 58) := ⟨_, rfl⟩
    have HH := Lib.hid (show Wa.heap[w2.heap.size]? = some (.cells (words G).toArray 58 (0, 0)) by rw [hWa]; exact World.alloc_heap_new _ _)
    have hle := Nat.le_trans B.out.size hB2.size
    replace B := Lib.hid (show Below w.heap.size w Wa by rw [hWa]; exact (B.out.trans (hB2.mono B.out.size)).alloc hle _)
    rw [← hWa] at hst
    clear hWa hB2 HBD HLD R hle
    gi_wp2_with (refine wpIn_store_run 58 _ _ _ _ rfl rfl rfl hst ?_)
    clear hst
    refine wpIn_wide.2 ?_
    refine wp_region_held_drew (S := fun w' => w'.heap[w2.heap.size]? = some (.cells (words G).toArray 58 (0, 0)) ∧ w'.cell? ⟨w2.heap.size, 0, none⟩ = some (.int .u64 (al : Int))) (by kernel_rfl) ?_ (fun hHeld => ?_)
    · (try dsimp only)
      exact ⟨HH.out, headT HH.out HG0.out⟩
    refine wpAnyH_take (i := 0) (oi := ⟨_, _, _, _, _, _⟩) (v := .agg (words G).toArray) rfl (by kernel_rfl) (by kernel_rfl) (by kernel_rfl) (fun _ _ _ h => h) (yields_load _ _ _ rfl (by kernel_rfl) rfl (fun w' h => load_groundW hG65.out h.1)) (by assumption) ?_
    (try simp only [Act.put, List.setIfInBounds_toArray, List.set_cons_zero, List.set_cons_succ])
    refine wpAnyH_take (i := 2) (oi := ⟨_, _, _, _, _, _⟩) (v := ?_) rfl (by kernel_rfl) (by kernel_rfl) (by kernel_rfl) (fun _ _ _ h => h) (Or.inl ⟨by rfl, ?_⟩) (by assumption) ?_
    rotate_left
    · intro w hSw
      (try dsimp only at hSw)
      go_simp
      (try with_reducible rfl)
    (try simp only [Act.put, List.setIfInBounds_toArray, List.set_cons_zero, List.set_cons_succ])
    refine wpAnyH_take (i := 3) (oi := ⟨_, _, _, _, _, _⟩) (v := ?_) rfl (by kernel_rfl) (by kernel_rfl) (by kernel_rfl) (fun _ _ _ h => h) (Or.inl ⟨by rfl, ?_⟩) (by assumption) ?_
    rotate_left
    · intro w hSw
      (try dsimp only at hSw)
      go_simp
      (try with_reducible rfl)
    (try simp only [Act.put, List.setIfInBounds_toArray, List.set_cons_zero, List.set_cons_succ])
    refine wpAnyH_take (i := 4) (oi := ⟨_, _, _, _, _, _⟩) (v := ?_) rfl (by kernel_rfl) (by kernel_rfl) (by kernel_rfl) (fun _ _ _ h => h) (Or.inl ⟨by rfl, ?_⟩) (by assumption) ?_
    rotate_left
    · intro w hSw
      (try dsimp only at hSw)
      go_simp
      (try with_reducible rfl)
    (try simp only [Act.put, List.setIfInBounds_toArray, List.set_cons_zero, List.set_cons_succ])
    refine wpAnyH_take (i := 5) (oi := ⟨_, _, _, _, _, _⟩) (v := ?_) rfl (by kernel_rfl) (by kernel_rfl) (by kernel_rfl) (fun _ _ _ h => h) (Or.inl ⟨by rfl, ?_⟩) (by assumption) ?_
    rotate_left
    · intro w hSw
      (try dsimp only at hSw)
      go_simp
      (try with_reducible rfl)
    (try simp only [Act.put, List.setIfInBounds_toArray, List.set_cons_zero, List.set_cons_succ])
    refine wpAnyH_ready (rs := [1]) (by kernel_rfl) (by simp) ?_
    refine AllReadyH.cons (o := ⟨_, _, _, _, _, _⟩) rfl (fun K hK => ?_) AllReadyH.nil
    go_simp
    (go_at_call 39; refine (HCT.out _ (by exact (tab_keep HTab.out B.out).1) (by exact (tab_keep HTab.out B.out).2)).mono ?_; rintro e wv ⟨gb, pb, lb, kb, cb, Bm, rfl, hat, hb, hBm⟩; have hsz := B.out.size; have hsh := lt_of_at9 HH.out; have HGM := Lib.hid (show w2.heap.size < Bm from Nat.lt_of_lt_of_le hsh hBm); (repeat (first | replace hb := below_undrew hb | replace hb := below_undrewN hb)); replace HH := Lib.hid ((hb.block _ (lt_of_at9 HH.out)).trans HH.out); replace B := Lib.hid (below_next B.out hb); replace hBm : w.heap.size ≤ Bm := Nat.le_trans hsz hBm; have HAT := Lib.hid hat; have HBM := Lib.hid hBm; clear hb hat hBm hsz hsh)
    refine hK.out _ _ ?_ (fun hHeld => ?_)
    · (try dsimp only)
      exact ⟨HH.out, headT HH.out HG0.out⟩
    clear hK K
    (try simp only [Act.put, List.setIfInBounds_toArray, List.set_cons_zero, List.set_cons_succ])
    refine wpAnyH_ready (rs := [6]) (by kernel_rfl) (by simp) ?_
    refine AllReadyH.cons (o := ⟨_, _, _, _, _, _⟩) rfl (fun K hK => ?_) AllReadyH.nil
    go_simp
    (go_at_call 42; refine (HWO.out _).mono ?_; rintro e wy ⟨rfl, hb⟩; (repeat (first | replace hb := below_undrew hb | replace hb := below_undrewN hb)); replace HH := Lib.hid ((hb.block _ (lt_of_at9 HH.out)).trans HH.out); replace B := Lib.hid (below_next B.out hb); replace HAT := Lib.hid (HAT.out.keep hb); clear hb)
    refine hK.out _ _ ?_ (fun hHeld => ?_)
    · (try dsimp only)
      exact ⟨HH.out, headT HH.out HG0.out⟩
    clear hK K
    (try simp only [Act.put, List.setIfInBounds_toArray, List.set_cons_zero, List.set_cons_succ])
    refine wpAnyH_ready (rs := [7]) (by kernel_rfl) (by simp) ?_
    refine AllReadyH.cons (o := ⟨_, _, _, _, _, _⟩) rfl (fun K hK => ?_) AllReadyH.nil
    go_simp
    (try unfold cntV)
    (try go_simp)
    refine (HCC.out gb pb lb kb cb Bm _ (HAT.out.keep ?_)).mono ?_
    · first | exact Below.refl _ _ | exact below_drewN (Below.refl _ _) _ | exact (Below.refl _ _).drew
    rintro e wf ⟨n', rfl, hgr, _, _⟩
    have hgm := HGM.out; have hbm := HBM.out
    replace HH := Lib.hid ((hgr.block _ (lt_of_at9 HH.out) (by simp; omega)).trans HH.out)
    replace B := Lib.hid (show Below w.heap.size w wf from ⟨hgr.os.trans B.out.os, hgr.tape.trans B.out.tape, hgr.output.trans B.out.output, Nat.le_trans B.out.size hgr.size, fun q hq => (hgr.block q (Nat.lt_of_lt_of_le hq B.out.size) (by simp; omega)).trans (B.out.block q hq)⟩)
    clear hgr hgm hbm
    refine hK.out _ _ ?_ (fun hHeld => ?_)
    · (try dsimp only)
      exact ⟨HH.out, headT HH.out HG0.out⟩
    clear hK K
    (try simp only [Act.put, List.setIfInBounds_toArray, List.set_cons_zero, List.set_cons_succ])
    refine wpAnyH_take (i := 8) (oi := ⟨_, _, _, _, _, _⟩) (v := ?_) rfl (by kernel_rfl) (by kernel_rfl) (by kernel_rfl) (fun _ _ _ h => h) (Or.inl ⟨by rfl, ?_⟩) (by assumption) ?_
    rotate_left
    · intro w hSw
      (try dsimp only at hSw)
      go_simp
      (try with_reducible rfl)
    (try simp only [Act.put, List.setIfInBounds_toArray, List.set_cons_zero, List.set_cons_succ])
    refine wpAnyH_take (i := 9) (oi := ⟨_, _, _, _, _, _⟩) (v := ?_) rfl (by kernel_rfl) (by kernel_rfl) (by kernel_rfl) (fun _ _ _ h => h) (Or.inl ⟨by rfl, ?_⟩) (by assumption) ?_
    rotate_left
    · intro w hSw
      (try dsimp only at hSw)
      go_simp
      (try with_reducible rfl)
    (try simp only [Act.put, List.setIfInBounds_toArray, List.set_cons_zero, List.set_cons_succ])
    refine wpAnyH_done (by kernel_rfl) ?_ _
    clear hHeld
    gi_wp2
    go_ret2
    exact ⟨by rw [ctFromV, if_pos HOK.out, HOK.out]; rfl, B.out⟩
  · have ho' : okTourF W H xs a b q = false := by simpa using ho
    have hso : soB W H xs a b [q] = false := by rw [soB_one]; exact ho'
    obtain ⟨W3, hW3⟩ : ∃ W3, W3 = (w.alloc (.cells #[.int .i64 W, .int .i64 H, .slice A n c] 30)).alloc (.cells #[.int .i64 a, .int .i64 b] 32) := ⟨_, rfl⟩
    have hs3 : W3.heap.size = w.heap.size + 2 := by rw [hW3]; simp
    have B3 := Lib.hid (show Below w.heap.size w W3 by rw [hW3]; exact below_new (below_new (Below.refl _ _) _) _)
    have HBD3 := Lib.hid (show W3.heap[w.heap.size]? = some (.cells #[.int .i64 W, .int .i64 H, .slice A n c] 30 (0, 0)) by rw [hW3, Below.heap_alloc _ _ _ (by simp)]; exact World.alloc_heap_new _ _)
    have HLD3 := Lib.hid (show W3.heap[w.heap.size + 1]? = some (.cells #[.int .i64 a, .int .i64 b] 32 (0, 0)) by
      have h := World.alloc_heap_new (w.alloc (.cells #[.int .i64 W, .int .i64 H, .slice A n c] 30)) (.cells #[.int .i64 a, .int .i64 b] 32)
      rw [World.size_alloc] at h
      rw [hW3]; exact h)
    obtain ⟨W2, hW2⟩ : ∃ W2, W2 = W3.alloc (.cells #[.int .i64 q] 3) := ⟨_, rfl⟩
    have hb3 : Below W3.heap.size W3 W2 := by rw [hW2]; exact below_new (Below.refl _ _) _
    have B := Lib.hid (below_next B3.out hb3)
    have HBD := Lib.hid ((hb3.block _ (lt_of_at9 HBD3.out)).trans HBD3.out)
    have HLD := Lib.hid ((hb3.block _ (lt_of_at9 HLD3.out)).trans HLD3.out)
    have HQ2 : W2.heap[w.heap.size + 1 + 1]? = some (.cells #[.int .i64 q] 3 (0, 0)) := by
      have h := World.alloc_heap_new W3 (.cells #[.int .i64 q] 3)
      rw [hs3] at h; rw [hW2]; exact h
    have RP := Lib.hid (show Rd W2 (some ⟨w.heap.size + 1 + 1, 0, none⟩) 1 [q] from ⟨rfl, by omega, fun k hk => by
      obtain rfl : k = 0 := by omega
      exact ⟨_, 0, _, rfl, lt_of_at9 HQ2, rfl, by rw [cell_of_row _ _ _ _ _ _ HQ2]; rfl⟩⟩)
    have R := Lib.hid (ha.keep B.out)
    rw [hW3] at hW2
    clear ha hW3 hs3 B3 HBD3 HLD3 hb3 HQ2
    have a0 : W2.cell? ⟨w.heap.size, 0, none⟩ = some (.int .i64 W) := by rw [cell_of_row _ _ _ _ _ _ HBD.out]; rfl
    have a1 : W2.cell? ⟨w.heap.size, 1, none⟩ = some (.int .i64 H) := by rw [cell_of_row _ _ _ _ _ _ HBD.out]; rfl
    have a2 : W2.cell? ⟨w.heap.size, 2, none⟩ = some (.slice A n c) := by rw [cell_of_row _ _ _ _ _ _ HBD.out]; rfl
    have l0 : W2.cell? ⟨w.heap.size + 1, 0, none⟩ = some (.int .i64 a) := by rw [cell_of_row _ _ _ _ _ _ HLD.out]; rfl
    have l1 : W2.cell? ⟨w.heap.size + 1, 1, none⟩ = some (.int .i64 b) := by rw [cell_of_row _ _ _ _ _ _ HLD.out]; rfl
    go_enter Tryz.func23, Tryz.ntmps23
    go_wp2_with fail
    rw [← hW2]
    clear hW2
    clear a0 a1 a2
    clear l0 l1
    refine (areToursSought_any _ _ _ _ _ _ _ _ _ _ _ _ _ R.out RP.out).mono ?_
    rw [hso]
    rintro e wv ⟨rfl, hb⟩
    replace HBD := Lib.hid ((hb.block _ (lt_of_at9 HBD.out)).trans HBD.out)
    replace HLD := Lib.hid ((hb.block _ (lt_of_at9 HLD.out)).trans HLD.out)
    replace R := Lib.hid (R.out.keep hb)
    replace B := Lib.hid (below_next B.out hb)
    clear hb
    clear RP
    go_wp2
    go_ret2
    exact ⟨by rw [ctFromV, ho']; rfl, B.out⟩
end Go.Proofs.YtnmmgalidkambaaGreatDoor

namespace Go.Proofs.YtnmmgalidkambaaGreatDoor
open Go.RowKit

set_option maxHeartbeats 4000000 in
set_option maxRecDepth 100000 in
theorem law_CountToursFrom (w : World) (V0 G0 : Int) (A0 : Option Addr) (n0 c0 : Nat) (xs0 : List Int) (ha0 : Rd w A0 n0 xs0) (la1 lb1 : Int) (q2 : Int) (hT : Tab64 w ∧ 0 < w.heap.size) :
    Calls Tryz.prog 5 #[brd V0 G0 A0 n0 c0, lpr la1 lb1, .int .i64 q2] w fun e w' => e = .returned (.bool true) ∧ Below w.heap.size w w' := by
  have hn9 := ha0.2.1
  by_cases hnB : (n0 : Int) ≤ 1048576
  rotate_left
  · go_enter Tryz.func5, Tryz.ntmps5
    go_wp2_with fail
    refine (szBoard_any _ _ _ _ _ _ _ hn9 (by omega) (by omega)).mono ?_
    rintro e wv ⟨rfl, hb⟩
    have B := Lib.hid (below_box (below_box hb))
    clear hb
    go_wp2
    go_ret
    exact ⟨rfl, B.out⟩
  · go_enter Tryz.func5, Tryz.ntmps5
    go_wp2_with fail
    refine (szBoard_any _ _ _ _ _ _ _ hn9 (by omega) (by omega)).mono ?_
    rintro e wv ⟨rfl, hb⟩
    have hbx0 := below_box hb
    have a0 : wv.cell? ⟨w.heap.size, 0, none⟩ = some (.int .i64 V0) := by simpa using newbox hbx0 0
    have a1 : wv.cell? ⟨w.heap.size, 1, none⟩ = some (.int .i64 G0) := by simpa using newbox hbx0 1
    have a2 : wv.cell? ⟨w.heap.size, 2, none⟩ = some (.slice A0 n0 c0) := by simpa using newbox hbx0 2
    have al : w.heap.size < wv.heap.size := by simpa using newbox_lt hbx0
    have l0 : wv.cell? ⟨w.heap.size + 1, 0, none⟩ = some (.int .i64 la1) := by simpa using newbox hb 0
    have l1 : wv.cell? ⟨w.heap.size + 1, 1, none⟩ = some (.int .i64 lb1) := by simpa using newbox hb 1
    have ll : w.heap.size + 1 < wv.heap.size := by simpa using newbox_lt hb
    have B := Lib.hid (below_box hbx0)
    have hs1 := Lib.hid (below_box hbx0).size
    have hz := Lib.hid ll
    clear hb hbx0
    go_wp2_with fail
    go_region_held3 (fun w' => w'.cell? ⟨w.heap.size, 0, none⟩ = some (.int .i64 V0) ∧ w'.cell? ⟨w.heap.size, 1, none⟩ = some (.int .i64 G0) ∧ w'.cell? ⟨w.heap.size, 2, none⟩ = some (.slice A0 n0 c0) ∧ w'.cell? ⟨w.heap.size + 1, 0, none⟩ = some (.int .i64 la1) ∧ w'.cell? ⟨w.heap.size + 1, 1, none⟩ = some (.int .i64 lb1)) (first | exact ⟨a0, a1, a2, l0, l1⟩)
      (first
        | (go_at_call 12; refine (toBoard_any _ _ _ _ _ _ _ (by exact (ha0.keep B.out).drew1) (by omega)).mono ?_; rintro e wv ⟨gs, rfl, owns, hb⟩; (try replace hb := below_undrew hb); replace a0 := cell_keep a0 al hb; replace a1 := cell_keep a1 al hb; replace a2 := cell_keep a2 al hb; replace al := lt_keep al hb; replace l0 := cell_keep l0 ll hb; replace l1 := cell_keep l1 ll hb; replace ll := lt_keep ll hb; (try replace Os := Lib.hid (Os.out.keep hb)); have hs2 := Lib.hid hb.size; replace B := Lib.hid (below_next B.out hb); have Os := Lib.hid owns; have SPs := Lib.hid owns.span; clear owns; clear hb)
        | (go_at_call 13; refine (toLeaper_any _ _ _).mono ?_; rintro e wv ⟨rfl, hb⟩; (try replace hb := below_undrew hb); replace a0 := cell_keep a0 al hb; replace a1 := cell_keep a1 al hb; replace a2 := cell_keep a2 al hb; replace al := lt_keep al hb; replace l0 := cell_keep l0 ll hb; replace l1 := cell_keep l1 ll hb; replace ll := lt_keep ll hb; (try replace Os := Lib.hid (Os.out.keep hb)); have hs3 := Lib.hid hb.size; replace B := Lib.hid (below_next B.out hb); clear hb)
        | (go_at_call 22; refine (spec_CountToursFrom _ _ _ _ _ _ _ _ _ _ (by exact Os.out.rd)).mono ?_; rintro e wv ⟨rfl, hb⟩; (try replace hb := below_undrew hb); replace a0 := cell_keep a0 al hb; replace a1 := cell_keep a1 al hb; replace a2 := cell_keep a2 al hb; replace al := lt_keep al hb; replace l0 := cell_keep l0 ll hb; replace l1 := cell_keep l1 ll hb; replace ll := lt_keep ll hb; have hs4 := Lib.hid hb.size; replace B := Lib.hid (below_next B.out hb); clear hb))
    all_goals
      clear Os SPs
      go_wp2_with fail
      refine (toBoard_any _ _ _ _ _ _ _ (ha0.keep B.out) (by omega)).mono ?_
      rintro e wv ⟨gx, rfl, ownx, hb⟩
      replace a0 := cell_keep a0 al hb
      replace a1 := cell_keep a1 al hb
      replace a2 := cell_keep a2 al hb
      replace al := lt_keep al hb
      replace l0 := cell_keep l0 ll hb
      replace l1 := cell_keep l1 ll hb
      replace ll := lt_keep ll hb
      have hs5 := Lib.hid hb.size
      replace B := Lib.hid (below_next B.out hb)
      have Ox := Lib.hid ownx; have SPx := Lib.hid ownx.span; clear ownx; clear hb
      obtain ⟨wx, hwx⟩ : ∃ wx, wx = wv := ⟨_, rfl⟩
      subst hwx
      go_wp2_with fail
      have hb := Below.refl (wx.alloc (.cells #[.int .i64 V0, .int .i64 G0, .slice (some ⟨gx, 0, none⟩) n0 n0] 30)).heap.size (wx.alloc (.cells #[.int .i64 V0, .int .i64 G0, .slice (some ⟨gx, 0, none⟩) n0 n0] 30))
      have x0 : (wx.alloc (.cells #[.int .i64 V0, .int .i64 G0, .slice (some ⟨gx, 0, none⟩) n0 n0] 30)).cell? ⟨wx.heap.size, 0, none⟩ = some (.int .i64 V0) := by simp
      have x1 : (wx.alloc (.cells #[.int .i64 V0, .int .i64 G0, .slice (some ⟨gx, 0, none⟩) n0 n0] 30)).cell? ⟨wx.heap.size, 1, none⟩ = some (.int .i64 G0) := by simp
      have x2 : (wx.alloc (.cells #[.int .i64 V0, .int .i64 G0, .slice (some ⟨gx, 0, none⟩) n0 n0] 30)).cell? ⟨wx.heap.size, 2, none⟩ = some (.slice (some ⟨gx, 0, none⟩) n0 n0) := by simp
      have xl := newbox_lt hb
      have hzx := Lib.hid xl
      replace hb := below_box hb
      replace a0 := cell_keep a0 al hb
      replace a1 := cell_keep a1 al hb
      replace a2 := cell_keep a2 al hb
      replace al := lt_keep al hb
      replace l0 := cell_keep l0 ll hb
      replace l1 := cell_keep l1 ll hb
      replace ll := lt_keep ll hb
      replace Ox := Lib.hid (Ox.out.keep hb)
      have hs6 := Lib.hid hb.size
      replace B := Lib.hid (below_next B.out hb)
      clear hb
      have hx0 : gx < wx.heap.size := (SPx.out _ rfl).2
      generalize wx.alloc (.cells #[.int .i64 V0, .int .i64 G0, .slice (some ⟨gx, 0, none⟩) n0 n0] 30) = wv at *
      generalize hx : wx.heap.size = x at *
      go_wp2_with fail
      go_region_held3 (fun w' => w'.cell? ⟨w.heap.size, 0, none⟩ = some (.int .i64 V0) ∧ w'.cell? ⟨w.heap.size, 1, none⟩ = some (.int .i64 G0) ∧ w'.cell? ⟨w.heap.size, 2, none⟩ = some (.slice A0 n0 c0) ∧ w'.cell? ⟨w.heap.size + 1, 0, none⟩ = some (.int .i64 la1) ∧ w'.cell? ⟨w.heap.size + 1, 1, none⟩ = some (.int .i64 lb1) ∧ w'.cell? ⟨x, 0, none⟩ = some (.int .i64 V0) ∧ w'.cell? ⟨x, 1, none⟩ = some (.int .i64 G0) ∧ w'.cell? ⟨x, 2, none⟩ = some (.slice (some ⟨gx, 0, none⟩) n0 n0)) (first | exact ⟨a0, a1, a2, l0, l1, x0, x1, x2⟩)
        (first
          | (go_at_call 13; refine (toLeaper_any _ _ _).mono ?_; rintro e wv ⟨rfl, hb⟩; (try replace hb := below_undrew hb); replace a0 := cell_keep a0 al hb; replace a1 := cell_keep a1 al hb; replace a2 := cell_keep a2 al hb; replace al := lt_keep al hb; replace l0 := cell_keep l0 ll hb; replace l1 := cell_keep l1 ll hb; replace ll := lt_keep ll hb; replace x0 := cell_keep x0 xl hb; replace x1 := cell_keep x1 xl hb; replace x2 := cell_keep x2 xl hb; replace xl := lt_keep xl hb; replace Ox := Lib.hid (Ox.out.keep hb); have hs7 := Lib.hid hb.size; replace B := Lib.hid (below_next B.out hb); clear hb)
          | (go_at_call 23; refine (impl_CountToursFrom _ _ _ _ _ _ _ _ _ _ (by exact Ox.out.rd) (by exact tab_keep hT B.out)).mono ?_; rintro e wv ⟨rfl, hb⟩; (try replace hb := below_undrew hb); replace a0 := cell_keep a0 al hb; replace a1 := cell_keep a1 al hb; replace a2 := cell_keep a2 al hb; replace al := lt_keep al hb; replace l0 := cell_keep l0 ll hb; replace l1 := cell_keep l1 ll hb; replace ll := lt_keep ll hb; replace x0 := cell_keep x0 xl hb; replace x1 := cell_keep x1 xl hb; replace x2 := cell_keep x2 xl hb; replace xl := lt_keep xl hb; replace Ox := Lib.hid (Ox.out.keep hb); have hs8 := Lib.hid hb.size; replace B := Lib.hid (below_next B.out hb); clear hb))
      go_wp2_with fail
      go_region_held3 (fun w' => w'.cell? ⟨w.heap.size, 0, none⟩ = some (.int .i64 V0) ∧ w'.cell? ⟨w.heap.size, 1, none⟩ = some (.int .i64 G0) ∧ w'.cell? ⟨w.heap.size, 2, none⟩ = some (.slice A0 n0 c0) ∧ w'.cell? ⟨w.heap.size + 1, 0, none⟩ = some (.int .i64 la1) ∧ w'.cell? ⟨w.heap.size + 1, 1, none⟩ = some (.int .i64 lb1) ∧ w'.cell? ⟨x, 0, none⟩ = some (.int .i64 V0) ∧ w'.cell? ⟨x, 1, none⟩ = some (.int .i64 G0) ∧ w'.cell? ⟨x, 2, none⟩ = some (.slice (some ⟨gx, 0, none⟩) n0 n0)) (first | exact ⟨a0, a1, a2, l0, l1, x0, x1, x2⟩)
        (first
          | (go_at_call 12; refine (toBoard_any _ _ _ _ _ _ _ (by exact (ha0.keep B.out).drew1) (by omega)).mono ?_; rintro e wv ⟨gy, rfl, owny, hb⟩; (try replace hb := below_undrew hb); replace a0 := cell_keep a0 al hb; replace a1 := cell_keep a1 al hb; replace a2 := cell_keep a2 al hb; replace al := lt_keep al hb; replace l0 := cell_keep l0 ll hb; replace l1 := cell_keep l1 ll hb; replace ll := lt_keep ll hb; replace x0 := cell_keep x0 xl hb; replace x1 := cell_keep x1 xl hb; replace x2 := cell_keep x2 xl hb; replace xl := lt_keep xl hb; replace Ox := Lib.hid (Ox.out.keep hb); have hs9 := Lib.hid hb.size; replace B := Lib.hid (below_next B.out hb); have Oy := Lib.hid owny; have SPy := Lib.hid owny.span; clear owny; clear hb)
          | (go_at_call 16; refine (eqBoard_any _ _ _ _ _ _ _ _ _ _ _ Ox.out.rd Oy.out.rd).mono ?_; simp only [decide_true]; rintro e wv ⟨rfl, hb⟩; (try replace hb := below_undrew hb); replace a0 := cell_keep a0 al hb; replace a1 := cell_keep a1 al hb; replace a2 := cell_keep a2 al hb; replace al := lt_keep al hb; replace l0 := cell_keep l0 ll hb; replace l1 := cell_keep l1 ll hb; replace ll := lt_keep ll hb; replace x0 := cell_keep x0 xl hb; replace x1 := cell_keep x1 xl hb; replace x2 := cell_keep x2 xl hb; replace xl := lt_keep xl hb; replace Ox := Lib.hid (Ox.out.keep hb); have hs10 := Lib.hid hb.size; replace B := Lib.hid (below_next B.out hb); clear hb Oy SPy))
      go_wp2
      go_ret
      exact ⟨rfl, B.out⟩

end Go.Proofs.YtnmmgalidkambaaGreatDoor
