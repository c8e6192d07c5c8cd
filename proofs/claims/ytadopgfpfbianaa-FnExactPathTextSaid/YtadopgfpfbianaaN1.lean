/-
  Names of cells, one after the other: the text; append of one string onto a row of the call's own.
-/
import Derived.Test.YtadopgfpfbianaaB12
import Derived.Test.YtadopgfpfbianaaApp
import Derived.Lib.Join
import Derived.Lib.SmallJoins
namespace Go.Proofs.Ytadopgfpfbianaa
open Go.RowKit

def nmS (W q : Int) : ByteArray := nameS (q % W) (q / W)
def txt (W : Int) (ps : List Int) : ByteArray := ⟨(Lib.join ((ps.map (nmS W)).map (·.data.toList)) [45]).toArray⟩
theorem txt_nil (W : Int) : txt W [] = ⟨#[]⟩ := rfl
theorem txt_one (W x : Int) : txt W [x] = nmS W x := by
  unfold txt
  rw [List.map_cons, List.map_nil, List.map_cons, List.map_nil, Lib.join_one]
theorem joinTail_snoc (sep : List UInt8) (r : List (List UInt8)) (x : List UInt8) : Lib.joinTail sep (r ++ [x]) = Lib.joinTail sep r ++ (sep ++ x) := by
  simp [Lib.joinTail]
theorem txt_snoc {W x : Int} {ps : List Int} (h : ps ≠ []) : txt W (ps ++ [x]) = txt W ps ++ ⟨#[45]⟩ ++ nmS W x := by
  cases ps with
  | nil => exact absurd rfl h
  | cons y t =>
    have e : ∀ a b : ByteArray, a.data.toList = b.data.toList → a = b := fun a b hab => by
      cases a with | mk a => cases b with | mk b => exact congrArg ByteArray.mk (Array.toList_inj.1 hab)
    apply e
    rw [Go.Joins.data_append, Go.Joins.data_append]
    simp only [txt, List.cons_append, List.map_cons, List.map_append, List.map_nil, Lib.join_cons, joinTail_snoc]
    simp
theorem txt_size (W : Int) : ∀ (n : Nat) (ps : List Int), ps.length = n → (txt W ps).size ≤ 3 * n
  | 0, ps, h => by
    have : ps = [] := List.eq_nil_of_length_eq_zero h
    subst this; exact Nat.le_refl _
  | n + 1, ps, h => by
    obtain ⟨qs, y, rfl⟩ : ∃ qs y, ps = qs ++ [y] := ⟨ps.dropLast, ps.getLast (by intro e; simp [e] at h), (List.dropLast_concat_getLast _).symm⟩
    have hq : qs.length = n := by simpa using h
    have ih := txt_size W n qs hq
    have h2 : (nmS W y).size = 2 := rfl
    by_cases h0 : qs = []
    · subst h0; rw [List.nil_append, txt_one, h2]; omega
    · rw [txt_snoc h0, ByteArray.size_append, ByteArray.size_append, h2]
      have : (⟨#[45]⟩ : ByteArray).size = 1 := rfl
      omega

theorem infoStr : (Try.prog.info? 9).map (fun i => (i.zero, i.size, i.bytes)) = some (some (.string ⟨#[]⟩), 1, 16) := by kernel_rfl

/-- A row of strings of the call's own. -/
def OwnStr (w : World) (lo : Nat) (A : Option Addr) (n c : Nat) (xs : List ByteArray) : Prop := w.ownsRow lo 9 1 (.slice A n c) n (xs.map Value.string)
theorem OwnStr.keep {w w' : World} {lo n c : Nat} {A : Option Addr} {xs : List ByteArray} (h : OwnStr w lo A n c xs) (hb : Below w.heap.size w w') : OwnStr w' lo A n c xs := by
  refine ⟨h.1, ?_⟩
  rcases h.2 with hn | ⟨g, cap, cur, hv, hlo, hg, r⟩
  · exact .inl hn
  · exact .inr ⟨g, cap, cur, hv, hlo, (hb.block g (Array.getElem?_eq_some_iff.1 hg).1).trans hg, r⟩
theorem OwnStr.form {w : World} {lo n c : Nat} {A : Option Addr} {xs : List ByteArray} (h : OwnStr w lo A n c xs) : (A = none ∧ n = 0 ∧ c = 0) ∨ ∃ g, A = some ⟨g, 0, none⟩ ∧ g < w.heap.size ∧ n ≤ c := by
  rcases h.2 with ⟨hv, hn⟩ | ⟨g, cap, cur, hv, hb, hg, hnc, hm, _⟩
  · injection hv with h1 h2 h3; exact .inl ⟨h1, hn, h3⟩
  · injection hv with h1 h2 h3
    subst h3
    exact .inr ⟨g, h1, (Array.getElem?_eq_some_iff.1 hg).1, hnc⟩
theorem OwnStr.cell {w : World} {lo g n c j : Nat} {xs : List ByteArray} {x : ByteArray} (h : OwnStr w lo (some ⟨g, 0, none⟩) n c xs) (hx : xs[j]? = some x) : w.cell? ⟨g, 0 + j, none⟩ = some (.string x) := by
  have hl : xs.length = n := by have := h.1; simpa using this
  have hj : j < n := by rw [← hl]; exact (List.getElem?_eq_some_iff.1 hx).1
  rw [Nat.zero_add, World.ownsRow.cellAt h j (by omega), List.getElem?_map, hx]; rfl

theorem wpList_appStr {w : World} {ops : Array Oper} {rest : List Oper} {o : Oper} {a : Act} {Q : Exit → Act → World → Prop} (hgd : o.guard = none) (s x : Operand)
    (ho : o.op = .call { callee := .builtin .append, args := #[s, x], argTypes := #[89, 89] })
    (lo : Nat) (A : Option Addr) (n c : Nat) (xs : List ByteArray) (q : ByteArray) (hs : a.eval s = .slice A n c) (hown : OwnStr w lo A n c xs) (hx : a.eval x = .slice (some ⟨w.heap.size, 0, none⟩) 1 1)
    (hn : n ≤ 1000000) (hlo : lo ≤ w.heap.size)
    (h : ∀ A' c' w', OwnStr w' lo A' (n + 1) c' (xs ++ [q]) → Below lo w w' → wpList Try.prog ops Q rest (a.put o.dst (.slice A' (n + 1) c')) w') :
    wpList Try.prog ops Q (o :: rest) a (w.alloc (.cells #[.string q] 9)) := by
  obtain ⟨i0, hi, hz0, hz1, hz2⟩ := info_parts infoStr
  refine wpList_append_own (w.alloc (.cells #[.string q] 9)) hgd s x 89 ho lo 9 i0 (.string ⟨#[]⟩) 1 16 Try.underlying89 hi hz0 hz1 hz2 rfl (by decide) (.slice A n c) n (xs.map Value.string) hs (World.ownsRow.alloc hown _)
    ⟨w.heap.size, 0, none⟩ 1 1 [.string q] hx rfl ?_ ?_ (by unfold maxLen; omega) (by omega) (by simp; omega) ?_
  · intro j u hj
    match j, hj with
    | 0, hj =>
      simp at hj; subst hj
      exact cell_of_row (w.alloc (.cells #[.string q] 9)) w.heap.size 0 #[.string q] 9 (0, 0) (heap_alloc_new w _)
  · intro u hu; simp at hu; subst hu; rfl
  · intro v' w' hown' hgrow _
    have e : xs.map Value.string ++ [.string q] = (xs ++ [q]).map Value.string := by simp
    rw [e] at hown'
    have hf : ∃ A' c', v' = .slice A' (n + 1) c' := by
      rcases hown'.2 with ⟨rfl, h0⟩ | ⟨g, cap, cur, rfl, _⟩
      · omega
      · exact ⟨_, cap, rfl⟩
    obtain ⟨A', c', rfl⟩ := hf
    refine h A' c' w' hown' ?_
    have hb : Below lo w (w.alloc (.cells #[.string q] 9)) := (Below.refl _ _).alloc hlo _
    refine hb.grown hgrow (by simp; omega) (fun k hk => ?_)
    exact (World.ownsRow.lt hown k hk).1

end Go.Proofs.Ytadopgfpfbianaa
