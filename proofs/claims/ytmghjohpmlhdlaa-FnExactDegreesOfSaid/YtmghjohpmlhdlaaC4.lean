/-
  DegreesOf: its contracts and its size.
-/
import Derived.Test.YtmghjohpmlhdlaaC3
import Derived.Test.YtmghjohpmlhdlaaS12
namespace Go.Proofs.Ytmghjohpmlhdlaa
theorem deg_size (W H : Int) (xs : List Int) (a b : Int) : (degreesV W H xs a b).length ≤ 1000000 := len_DegreesOf W H xs a b
end Go.Proofs.Ytmghjohpmlhdlaa
