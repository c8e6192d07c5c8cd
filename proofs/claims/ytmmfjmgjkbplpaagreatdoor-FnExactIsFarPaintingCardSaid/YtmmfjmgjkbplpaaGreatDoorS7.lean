/-
  Steps of regions that append (U0), with what stands ahead of them.
-/
import Derived.Test.YtmmfjmgjkbplpaaGreatDoorS6
import Derived.Test.YtmmfjmgjkbplpaaGreatDoorU0
