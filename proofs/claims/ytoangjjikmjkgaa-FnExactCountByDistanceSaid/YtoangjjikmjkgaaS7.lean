/-
  Steps of regions that append (U0), with what stands ahead of them.
-/
import Derived.Test.YtoangjjikmjkgaaS6
import Derived.Test.YtoangjjikmjkgaaU0
