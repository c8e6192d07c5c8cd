/-
  Plain facts: levels of a search in width: one leap more is at most one farther, whoever is reached has one before it.
-/
import Derived.Test.YtmmfjmgjkbplpaaQ4
namespace Go.Proofs.Ytmmfjmgjkbplpaa

/-! ### Levels of the search in width -/
def Fv (far : List Int) (x : Int) : Int := far.getD x.toNat 0
structure Lv (adj : Int → List Int) (start : Int) (far q : List Int) : Prop where
  mono : (q.map (Fv far)).Pairwise (· ≤ ·)
  pred : ∀ y ∈ q, y = start ∨ ∃ x ∈ q, y ∈ adj x ∧ Fv far y = Fv far x + 1
theorem mono_get {far q : List Int} (h : (q.map (Fv far)).Pairwise (· ≤ ·)) {i j : Nat} {x y : Int} (hij : i < j) (hx : q[i]? = some x) (hy : q[j]? = some y) : Fv far x ≤ Fv far y := by
  obtain ⟨b1, g1⟩ := List.getElem?_eq_some_iff.1 hx
  obtain ⟨b2, g2⟩ := List.getElem?_eq_some_iff.1 hy
  have := List.pairwise_iff_getElem.1 h i j (by rw [List.length_map]; exact b1) (by rw [List.length_map]; exact b2) hij
  rw [List.getElem_map, List.getElem_map, g1, g2] at this
  exact this
theorem Fv_keeps {d x : Int} {l far q : List Int} (h : 0 ≤ Fv far x) : Fv (visit d l (far, q)).1 x = Fv far x := visit_keeps l far q h
theorem visit_lv {adj : Int → List Int} {start c d : Int} {N : Nat} : ∀ (l far q : List Int) (B : Int), (∀ x ∈ l, (0 ≤ x ∧ x < N) ∧ x ∈ adj c) → BfsOk N B far q → Known far q → 0 ≤ d → d + 1 ≤ B → c ∈ q → Fv far c = d → (∀ y ∈ q, Fv far y ≤ d + 1) → Lv adj start far q →
    Lv adj start (visit d l (far, q)).1 (visit d l (far, q)).2 ∧ (∀ y ∈ (visit d l (far, q)).2, Fv (visit d l (far, q)).1 y ≤ d + 1) ∧ ∀ y ∈ l, Fv (visit d l (far, q)).1 y ≤ d + 1
  | [], far, q, B, _, _, _, _, _, _, _, h1, h2 => ⟨h2, h1, by simp⟩
  | x :: t, far, q, B, hl, ok, hk, hd, hB, hc, hcd, hb, lv => by
    have hx := hl x List.mem_cons_self
    have ht : ∀ y ∈ t, (0 ≤ y ∧ y < N) ∧ y ∈ adj c := fun y hy => hl y (List.mem_cons_of_mem _ hy)
    have hlen := ok.len
    rw [visit]
    by_cases hf : far.getD x.toNat 0 < 0
    · rw [if_pos hf]
      have hne : ∀ y ∈ q, y.toNat ≠ x.toNat := fun y hy e => by
        have := ok.seen y hy
        rw [e] at this; omega
      have hF : ∀ y ∈ q, Fv (far.set x.toNat (d + 1)) y = Fv far y := fun y hy => getD_set_ne (fun e => hne y hy e.symm)
      have hFx : Fv (far.set x.toNat (d + 1)) x = d + 1 := getD_set_same (by omega)
      have ok' := ok.push hx.1 (by omega : 0 ≤ d + 1 ∧ d + 1 ≤ B) hf
      have hk' : Known (far.set x.toNat (d + 1)) (q ++ [x]) := fun i hi => by
        by_cases e : i = x.toNat
        · subst e; simp; right; omega
        · have : (far.set x.toNat (d + 1)).getD i (-1) = far.getD i (-1) := by
            rw [List.getD_eq_getElem?_getD, List.getElem?_set_ne (Ne.symm e), ← List.getD_eq_getElem?_getD]
          rw [this] at hi
          exact List.mem_append_left _ (hk i hi)
      have lv' : Lv adj start (far.set x.toNat (d + 1)) (q ++ [x]) := by
        refine ⟨?_, fun y hy => ?_⟩
        · rw [List.map_append, List.map_congr_left hF, List.pairwise_append]
          refine ⟨lv.mono, by simp, fun u hu v hv => ?_⟩
          obtain ⟨y, hy, rfl⟩ := List.mem_map.1 hu
          have : v = d + 1 := by simpa [hFx] using hv
          have := hb y hy; omega
        · rcases List.mem_append.1 hy with hy | hy
          · rcases lv.pred y hy with h | ⟨z, hz, h1, h2⟩
            · exact .inl h
            · exact .inr ⟨z, List.mem_append_left _ hz, h1, by rw [hF y hy, hF z hz]; exact h2⟩
          · have : y = x := by simpa using hy
            subst this
            exact .inr ⟨c, List.mem_append_left _ hc, hx.2, by rw [hFx, hF c hc, hcd]⟩
      obtain ⟨r1, r2, r3⟩ := visit_lv t (far.set x.toNat (d + 1)) (q ++ [x]) B ht ok' hk' hd hB (List.mem_append_left _ hc) (by rw [hF c hc]; exact hcd)
        (fun y hy => by
          rcases List.mem_append.1 hy with hy | hy
          · rw [hF y hy]; exact hb y hy
          · have : y = x := by simpa using hy
            subst this; rw [hFx]; omega) lv'
      refine ⟨r1, r2, fun y hy => ?_⟩
      rcases List.mem_cons.1 hy with rfl | hy
      · rw [Fv_keeps (by rw [hFx]; omega), hFx]; omega
      · exact r3 y hy
    · rw [if_neg hf]
      obtain ⟨r1, r2, r3⟩ := visit_lv t far q B ht ok hk hd hB hc hcd hb lv
      refine ⟨r1, r2, fun y hy => ?_⟩
      rcases List.mem_cons.1 hy with rfl | hy
      · rw [Fv_keeps (show 0 ≤ Fv far y from by unfold Fv; omega)]
        have h1 : y ∈ q := by
          have := hk y.toNat (by rw [getD_lt (by omega) (-1) 0]; omega)
          rwa [Int.toNat_of_nonneg hx.1.1] at this
        exact hb y h1
      · exact r3 y hy
section
variable {adj : Int → List Int} {N : Nat} {start : Int}
theorem bfs_lv (hs : 0 ≤ start ∧ start < N) (ha : ∀ c : Int, 0 ≤ c ∧ c < N → ∀ x ∈ adj c, 0 ≤ x ∧ x < N) : ∀ k : Nat,
    Lv adj start (bfsTo adj N start k).1 (bfsTo adj N start k).2 ∧ (∀ c, (bfsTo adj N start k).2[k]? = some c → ∀ y ∈ (bfsTo adj N start k).2, Fv (bfsTo adj N start k).1 y ≤ Fv (bfsTo adj N start k).1 c + 1) ∧
      ∀ j, j < k → ∀ x, (bfsTo adj N start k).2[j]? = some x → ∀ y ∈ adj x, Fv (bfsTo adj N start k).1 y ≤ Fv (bfsTo adj N start k).1 x + 1
  | 0 => by
    refine ⟨⟨by simp [bfsTo], fun y hy => .inl (by simpa [bfsTo] using hy)⟩, fun c hc y hy => ?_, fun j hj => absurd hj (Nat.not_lt_zero _)⟩
    have h1 : c = start := by simpa [bfsTo, eq_comm] using hc
    have h2 : y = start := by simpa [bfsTo] using hy
    rw [h1, h2]; omega
  | k + 1 => by
    obtain ⟨lv, hb, htri⟩ := bfs_lv hs ha k
    have ok := bfs_ok hs ha k
    have kn := bfs_known hs ha k
    cases hc : (bfsTo adj N start k).2[k]? with
    | none =>
      have e : bfsTo adj N start (k + 1) = bfsTo adj N start k := by rw [bfsTo, bfsStep, hc]
      rw [e]
      have hl : (bfsTo adj N start k).2.length ≤ k := List.getElem?_eq_none_iff.1 hc
      refine ⟨lv, fun c h => ?_, fun j hj x hx => ?_⟩
      · rw [List.getElem?_eq_none (by omega)] at h; cases h
      · have : j < (bfsTo adj N start k).2.length := (List.getElem?_eq_some_iff.1 hx).1
        exact htri j (by omega) x hx
    | some c =>
      have e := bfs_next hc
      have hcq := List.mem_of_getElem? hc
      have hcr := ok.range c hcq
      have hd0 := ok.seen c hcq
      have hdk : (bfsTo adj N start k).1.getD c.toNat 0 ≤ k := by
        obtain ⟨v, h1, h2, _, h4⟩ := ok.at_ (i := c.toNat) (by omega)
        rw [h2]; exact h4
      obtain ⟨r1, r2, r3⟩ := visit_lv (adj := adj) (start := start) (c := c) (d := (bfsTo adj N start k).1.getD c.toNat 0) (adj c) (bfsTo adj N start k).1 (bfsTo adj N start k).2 ((k : Int) + 1)
        (fun x hx => ⟨ha c hcr x hx, hx⟩) (ok.mono (by omega)) kn hd0 (by omega) hcq rfl (hb c hc) lv
      rw [e]
      have hpre : ∀ j x, (bfsTo adj N start k).2[j]? = some x → (visit ((bfsTo adj N start k).1.getD c.toNat 0) (adj c) (bfsTo adj N start k)).2[j]? = some x := fun j x h => visit_pre (adj c) _ _ h
      have hFc : Fv (visit ((bfsTo adj N start k).1.getD c.toNat 0) (adj c) (bfsTo adj N start k)).1 c = Fv (bfsTo adj N start k).1 c := Fv_keeps (q := (bfsTo adj N start k).2) hd0
      refine ⟨r1, fun c2 hc2 y hy => ?_, fun j hj x hx y hy => ?_⟩
      · have h1 : Fv (visit ((bfsTo adj N start k).1.getD c.toNat 0) (adj c) (bfsTo adj N start k)).1 y ≤ (bfsTo adj N start k).1.getD c.toNat 0 + 1 := r2 y hy
        have h2 : Fv (visit ((bfsTo adj N start k).1.getD c.toNat 0) (adj c) (bfsTo adj N start k)).1 c ≤ Fv (visit ((bfsTo adj N start k).1.getD c.toNat 0) (adj c) (bfsTo adj N start k)).1 c2 := by
          exact mono_get r1.mono (Nat.lt_succ_self k) (hpre k c hc) hc2
        rw [hFc] at h2
        have : Fv (bfsTo adj N start k).1 c = (bfsTo adj N start k).1.getD c.toNat 0 := rfl
        omega
      · have hkl : k < (bfsTo adj N start k).2.length := (List.getElem?_eq_some_iff.1 hc).1
        obtain ⟨z, hz⟩ : ∃ z, (bfsTo adj N start k).2[j]? = some z := ⟨_, List.getElem?_eq_getElem (by omega)⟩
        have hzx : z = x := by have := hpre j z hz; rw [hx] at this; injection this with this; exact this.symm
        subst hzx
        by_cases hjk : j = k
        · subst hjk
          rw [hz] at hc; injection hc with hc
          subst hc
          rw [hFc]; exact r3 y hy
        · have h1 := htri j (by omega) z hz y hy
          have h2 := bfs_done hs ha k j (by omega) z hz y hy
          have h3 := ok.seen z (List.mem_of_getElem? hz)
          have h4 : Fv (visit ((bfsTo adj N start k).1.getD c.toNat 0) (adj c) (bfsTo adj N start k)).1 y = Fv (bfsTo adj N start k).1 y := Fv_keeps (q := (bfsTo adj N start k).2) h2
          have h5 : Fv (visit ((bfsTo adj N start k).1.getD c.toNat 0) (adj c) (bfsTo adj N start k)).1 z = Fv (bfsTo adj N start k).1 z := Fv_keeps (q := (bfsTo adj N start k).2) h3
          rw [h4, h5]; exact h1
/-- One leap more is at most one farther. -/
theorem far_tri (hs : 0 ≤ start ∧ start < N) (ha : ∀ c : Int, 0 ≤ c ∧ c < N → ∀ x ∈ adj c, 0 ≤ x ∧ x < N) {x y : Int} (hx : 0 ≤ x) (hf : 0 ≤ (farL adj N start).getD x.toNat (-1)) (hy : y ∈ adj x) :
    (farL adj N start).getD y.toNat (-1) ≤ (farL adj N start).getD x.toNat (-1) + 1 := by
  have ok := bfs_ok hs ha N
  have hlen := ok.len
  have hxq : x ∈ (bfsTo adj N start N).2 := by
    have := bfs_known hs ha N x.toNat hf
    rwa [Int.toNat_of_nonneg hx] at this
  have hxr := ok.range x hxq
  have hyr := ha x hxr y hy
  obtain ⟨j, hj, hjx⟩ := List.getElem_of_mem hxq
  have hql := bfs_q_len hs ha N
  have h := (bfs_lv hs ha N).2.2 j (by omega) x (by rw [List.getElem?_eq_getElem hj, hjx]) y hy
  unfold Fv at h
  unfold farL
  rw [getD_lt (by omega) (-1) 0, getD_lt (i := x.toNat) (by omega) (-1) 0]
  exact h
theorem far_pred (hs : 0 ≤ start ∧ start < N) (ha : ∀ c : Int, 0 ≤ c ∧ c < N → ∀ x ∈ adj c, 0 ≤ x ∧ x < N) {y : Int} (hy : 0 ≤ y) (hf : 0 ≤ (farL adj N start).getD y.toNat (-1)) :
    y = start ∨ ∃ x : Int, (0 ≤ x ∧ x < N) ∧ 0 ≤ (farL adj N start).getD x.toNat (-1) ∧ y ∈ adj x ∧ (farL adj N start).getD y.toNat (-1) = (farL adj N start).getD x.toNat (-1) + 1 := by
  have ok := bfs_ok hs ha N
  have hlen := ok.len
  have hyq : y ∈ (bfsTo adj N start N).2 := by
    have := bfs_known hs ha N y.toNat hf
    rwa [Int.toNat_of_nonneg hy] at this
  rcases (bfs_lv hs ha N).1.pred y hyq with h | ⟨x, hx, h1, h2⟩
  · exact .inl h
  · have hxr := ok.range x hx
    have hyr := ok.range y hyq
    have h3 := ok.seen x hx
    refine .inr ⟨x, hxr, ?_, h1, ?_⟩
    · unfold farL; rw [getD_lt (by omega) (-1) 0]; exact h3
    · unfold Fv at h2
      unfold farL
      rw [getD_lt (by omega) (-1) 0, getD_lt (i := x.toNat) (by omega) (-1) 0]
      exact h2
end


end Go.Proofs.Ytmmfjmgjkbplpaa
