/-
  Steps of regions that append (U0), with what stands ahead of them.
-/
import Derived.Test.YtmghjohpmlhdlaaS6
import Derived.Test.YtmghjohpmlhdlaaU0
