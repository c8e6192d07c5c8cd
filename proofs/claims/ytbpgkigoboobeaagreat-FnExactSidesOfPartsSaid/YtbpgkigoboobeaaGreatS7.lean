/-
  Steps of regions that append (U0), with what stands ahead of them.
-/
import Derived.Test.YtbpgkigoboobeaaGreatS6
import Derived.Test.YtbpgkigoboobeaaGreatU0
