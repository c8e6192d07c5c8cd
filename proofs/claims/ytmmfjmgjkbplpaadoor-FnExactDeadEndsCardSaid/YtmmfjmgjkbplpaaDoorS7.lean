/-
  Steps of regions that append (U0), with what stands ahead of them.
-/
import Derived.Test.YtmmfjmgjkbplpaaDoorS6
import Derived.Test.YtmmfjmgjkbplpaaDoorU0
