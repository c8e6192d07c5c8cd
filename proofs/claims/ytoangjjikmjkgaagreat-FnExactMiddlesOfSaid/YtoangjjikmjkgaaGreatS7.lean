/-
  Steps of regions that append (U0), with what stands ahead of them.
-/
import Derived.Test.YtoangjjikmjkgaaGreatS6
import Derived.Test.YtoangjjikmjkgaaGreatU0
