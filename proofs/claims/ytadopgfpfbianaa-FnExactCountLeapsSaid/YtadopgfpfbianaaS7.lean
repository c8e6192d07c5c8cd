/-
  Steps of regions that append (U0), with what stands ahead of them.
-/
import Derived.Test.YtadopgfpfbianaaS6
import Derived.Test.YtadopgfpfbianaaU0
