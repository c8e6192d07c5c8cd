/-
  Steps of regions that append (U0), with what stands ahead of them.
-/
import Derived.Test.YtmmfjmgjkbplpaaS6
import Derived.Test.YtmmfjmgjkbplpaaU0
