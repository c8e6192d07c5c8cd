/-
  Steps of regions that append (U0), with what stands ahead of them.
-/
import Derived.Test.YtcfibfbenccimaaGreatDoorS6
import Derived.Test.YtcfibfbenccimaaGreatDoorU0
