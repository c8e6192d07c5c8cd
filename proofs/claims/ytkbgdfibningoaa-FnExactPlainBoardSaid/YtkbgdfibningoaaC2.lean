/-
  Plain boards: sizes of what is handed back.
-/
import Derived.Test.YtkbgdfibningoaaB6
namespace Go.Proofs.Ytkbgdfibningoaa
theorem len_PlainBoard : ([] : List Int).length ≤ 1000000 := by simp
end Go.Proofs.Ytkbgdfibningoaa
