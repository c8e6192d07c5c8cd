/-
  Steps of regions that append (U0), with what stands ahead of them.
-/
import Derived.Test.YtcfibfbenccimaaDoorS6
import Derived.Test.YtcfibfbenccimaaDoorU0
