/-
  Contracts: names of cells.
-/
import Derived.Test.YtadopgfpfbianaaB8
namespace Go.Proofs.Ytadopgfpfbianaa
open Go.RowKit

def digS (n : Int) : ByteArray := ⟨#[UInt8.ofNat (48 + n.toNat)]⟩
def nameS (x y : Int) : ByteArray := ⟨#[UInt8.ofNat (97 + x.toNat), UInt8.ofNat (49 + y.toNat)]⟩

theorem byte_back {v : Int} (h1 : 0 ≤ v) (h2 : v ≤ 255) : ((UInt8.ofNat v.toNat).toNat : Int) = v := by
  rw [UInt8.toNat_ofNat']; omega
theorem conv1 (w : World) (v : Int) (h1 : 0 ≤ v) (h2 : v ≤ 255) :
    (convert 118 9 (.slice (some ⟨w.heap.size, 0, none⟩) 1 1)).run Try.prog (w.alloc (.cells #[.int .u8 v] 5)) = .ok (.string ⟨#[UInt8.ofNat v.toNat]⟩) (w.alloc (.cells #[.int .u8 v] 5)) := by
  have h := run_convert_bytes_back (P := Try.prog) (w.alloc (.cells #[.int .u8 v] 5)) 118 9 5 ⟨w.heap.size, 0, none⟩ 1 [UInt8.ofNat v.toNat] Try.underlying118 Try.underlying5 Try.underlying9 (fun j hj => by
    match j, hj with
    | 0, _ =>
      have := cell_of_row (w.alloc (.cells #[.int .u8 v] 5)) w.heap.size 0 #[.int .u8 v] 5 (0, 0) (heap_alloc_new w _)
      simp only [List.getElem_cons_zero]
      rw [byte_back h1 h2]
      exact this)
  exact h
theorem conv2 (w : World) (u v : Int) (h1 : 0 ≤ u) (h2 : u ≤ 255) (h3 : 0 ≤ v) (h4 : v ≤ 255) :
    (convert 118 9 (.slice (some ⟨w.heap.size, 0, none⟩) 2 2)).run Try.prog (w.alloc (.cells #[.int .u8 u, .int .u8 v] 5)) = .ok (.string ⟨#[UInt8.ofNat u.toNat, UInt8.ofNat v.toNat]⟩) (w.alloc (.cells #[.int .u8 u, .int .u8 v] 5)) := by
  have hh := heap_alloc_new w (.cells #[.int .u8 u, .int .u8 v] 5)
  have h := run_convert_bytes_back (P := Try.prog) (w.alloc (.cells #[.int .u8 u, .int .u8 v] 5)) 118 9 5 ⟨w.heap.size, 0, none⟩ 2 [UInt8.ofNat u.toNat, UInt8.ofNat v.toNat] Try.underlying118 Try.underlying5 Try.underlying9 (fun j hj => by
    match j, hj with
    | 0, _ =>
      have := cell_of_row (w.alloc (.cells #[.int .u8 u, .int .u8 v] 5)) w.heap.size 0 #[.int .u8 u, .int .u8 v] 5 (0, 0) hh
      simp only [List.getElem_cons_zero]
      rw [byte_back h1 h2]
      exact this
    | 1, _ =>
      have := cell_of_row (w.alloc (.cells #[.int .u8 u, .int .u8 v] 5)) w.heap.size 1 #[.int .u8 u, .int .u8 v] 5 (0, 0) hh
      simp only [List.getElem_cons_succ, List.getElem_cons_zero]
      rw [byte_back h3 h4]
      exact this)
  exact h

theorem conv2k (w : World) (k : Nat) (u v : Int) (hk : k = w.heap.size) (h1 : 0 ≤ u) (h2 : u ≤ 255) (h3 : 0 ≤ v) (h4 : v ≤ 255) :
    (convert 118 9 (.slice (some ⟨k, 0, none⟩) 2 2)).run Try.prog (w.alloc (.cells #[.int .u8 u, .int .u8 v] 5)) = .ok (.string ⟨#[UInt8.ofNat u.toNat, UInt8.ofNat v.toNat]⟩) (w.alloc (.cells #[.int .u8 u, .int .u8 v] 5)) := by
  subst hk; exact conv2 w u v h1 h2 h3 h4

set_option maxRecDepth 100000 in
set_option maxHeartbeats 1000000 in
theorem l1Num_any (n : Int) (w : World) (h1 : 1 ≤ n) (h2 : n ≤ 8) :
    Calls Try.prog 133 #[.int .i64 n] w fun e w' => e = .returned (.string (digS n)) ∧ Below w.heap.size w w' := by
  have h : n = 1 ∨ n = 2 ∨ n = 3 ∨ n = 4 ∨ n = 5 ∨ n = 6 ∨ n = 7 ∨ n = 8 := by omega
  clear h1 h2
  have hcv := conv1
  rcases h with rfl | rfl | rfl | rfl | rfl | rfl | rfl | rfl
  all_goals
    go_enter Try.func133, Try.ntmps133
    go_wp2
    go_ret
    exact ⟨rfl, by repeat (first | exact Below.refl _ _ | refine below_drewN ?_ _ | refine Below.drew ?_ | refine below_new ?_ _)⟩

set_option maxRecDepth 100000 in
set_option maxHeartbeats 4000000 in
theorem nameAt_any (x y : Int) (w : World) (h1 : 0 ≤ x) (h2 : x ≤ 7) (h3 : 0 ≤ y) (h4 : y ≤ 7) :
    Calls Try.prog 71 #[lpr x y] w fun e w' => e = .returned (.string (nameS x y)) ∧ Below w.heap.size w w' := by
  have hcv := conv2k
  have hx : x = 0 ∨ x = 1 ∨ x = 2 ∨ x = 3 ∨ x = 4 ∨ x = 5 ∨ x = 6 ∨ x = 7 := by omega
  have hy : y = 0 ∨ y = 1 ∨ y = 2 ∨ y = 3 ∨ y = 4 ∨ y = 5 ∨ y = 6 ∨ y = 7 := by omega
  clear h1 h2 h3 h4
  rcases hx with rfl | rfl | rfl | rfl | rfl | rfl | rfl | rfl <;> rcases hy with rfl | rfl | rfl | rfl | rfl | rfl | rfl | rfl
  all_goals
    go_enter Try.func71, Try.ntmps71
    go_wp2
    go_ret
    exact ⟨rfl, by repeat (first | exact Below.refl _ _ | refine below_drewN ?_ _ | refine Below.drew ?_ | refine below_new ?_ _)⟩

end Go.Proofs.Ytadopgfpfbianaa
