/-
  Steps of regions that append (U0), with what stands ahead of them.
-/
import Derived.Test.YtnnonmpgkkpocaaGreatDoorS6
import Derived.Test.YtnnonmpgkkpocaaGreatDoorU0
